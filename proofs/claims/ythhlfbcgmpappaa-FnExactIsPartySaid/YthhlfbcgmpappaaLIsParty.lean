/-
  What is proved: the law FnExactIsParty returns true at every party-like argument, and leaves all that was there as it was. Conditions: the argument's times are read as they lie.
-/
import Derived.Test.YthhlfbcgmpappaaIsPa
import Derived.Deep.RegionHeld3
namespace Go.Proofs.Ythhlfbcgmpappaa
open Go.RowKit

set_option maxHeartbeats 400000 in
theorem lawIsParty_big (A : Option Addr) (n c : Nat) (s : Int) (w : World) (hn : n ≤ 9223372036854775807) (hbig : 1048576 < n) :
    Calls Try.prog 5 #[.agg #[.slice A n c, .int .i64 s]] w fun e w' => e = .returned (.bool true) ∧ Below w.heap.size w w' := by
  go_enter Try.func5, Try.ntmps5
  go_wp2_with fail
  refine (szParty_any A n c s 1048576 _ hn (by omega) (by omega)).mono ?_
  rintro e w1 ⟨rfl, hb1⟩
  rw [if_pos (by omega)]
  go_wp2
  go_ret
  exact ⟨rfl, below_then (below1 w _) hb1 (by simp)⟩

set_option maxHeartbeats 800000 in
theorem lawIsParty_small (A : Option Addr) (n c : Nat) (xs : List Int) (s : Int) (w : World) (hA : Holds w A (nums xs)) (hx : xs.length = n) (hn : n ≤ 1048576) :
    Calls Try.prog 5 #[.agg #[.slice A n c, .int .i64 s]] w fun e w' => e = .returned (.bool true) ∧ Below w.heap.size w w' := by
  have HX := Lib.hid hx
  clear hx
  have hp0 := Whole.fresh w 55 #[.slice A n c, .int .i64 s]
  have hA0 := hA.alloc (.cells #[.slice A n c, .int .i64 s] 55)
  go_enter Try.func5, Try.ntmps5
  go_wp2_with fail
  refine (szParty_any A n c s 1048576 _ (by omega) (by omega) (by omega)).mono ?_
  rintro e w1 ⟨rfl, hb1⟩
  rw [if_neg (by omega)]
  have hp1 := hp0.below hb1
  have hA1 := hA0.below hb1
  have ht1 := below_then (below1 w _) hb1 (by simp)
  have hl1 := hp1.lt
  obtain ⟨c0, c1, -, -⟩ := hp1.two
  clear hp0 hA0 hb1
  have hleft : (0 : Int) ≤ 1048576 - n := by omega
  go_wp2_with fail
  refine (toParty_own A n c xs s _ hA1 HX.out hn).mono ?_
  rintro e w2 ⟨g2, rfl, hg2, hw2, hb2⟩
  have hp2 := hp1.below hb2
  have hA2 := hA1.below hb2
  have ht2 := below_then ht1 hb2 ht1.size
  have hl2 := hp2.lt
  clear c0 c1 hp1 hA1 ht1 hb2 hl1
  obtain ⟨c0, c1, -, -⟩ := hp2.two
  go_wp2_with fail
  refine (specIsParty_any _ _ _ xs s _ hw2.holds HX.out (by omega)).mono ?_
  rintro e w3 ⟨rfl, hb3⟩
  have hp3 := hp2.below hb3
  have hA3 := hA2.below hb3
  have ht3 := below_then ht2 hb3 ht2.size
  have hl3 := hp3.lt
  clear c0 c1 hp2 hA2 ht2 hb3 hl2 hw2 hg2
  obtain ⟨c0, c1, -, -⟩ := hp3.two
  go_wp2_with fail
  refine (toParty_own A n c xs s _ hA3 HX.out hn).mono ?_
  rintro e w4 ⟨g4, rfl, hg4, hw4, hb4⟩
  have hp4 := hp3.below hb4
  have hA4 := hA3.below hb4
  have ht4 := below_then ht3 hb4 ht3.size
  have hl4 := hp4.lt
  have hgl4 := hw4.lt
  clear c0 c1 hp3 hA3 ht3 hb4 hl3
  obtain ⟨c0, c1, -, -⟩ := hp4.two
  -- the box of the copy
  have hp5 := hp4.alloc (.cells #[.slice (some ⟨g4, 0, none⟩) n n, .int .i64 s] 26)
  have hA5 := hA4.alloc (.cells #[.slice (some ⟨g4, 0, none⟩) n n, .int .i64 s] 26)
  have hw5 := hw4.alloc (.cells #[.slice (some ⟨g4, 0, none⟩) n n, .int .i64 s] 26)
  have hx5 := Whole.fresh w4 26 #[.slice (some ⟨g4, 0, none⟩) n n, .int .i64 s]
  have ht5 := below_then ht4 (below1 w4 (.cells #[.slice (some ⟨g4, 0, none⟩) n n, .int .i64 s] 26)) ht4.size
  clear hp4 hA4 hw4 ht4
  go_wp2_with fail
  refine (isParty_any _ _ _ xs s _ hw5.holds HX.out (by omega)).mono ?_
  rintro e w6 ⟨rfl, hb6⟩
  have hp6 := hp5.below hb6
  have hA6 := hA5.below hb6
  have hw6 := hw5.below hb6
  have hx6 := hx5.below hb6
  have ht6 := below_then ht5 hb6 ht5.size
  have hl6 := hp6.lt
  have hxl6 := hx6.lt
  clear c0 c1 hp5 hA5 hw5 hx5 ht5 hb6
  obtain ⟨c0, c1, -, -⟩ := hp6.two
  obtain ⟨d0, d1, -, -⟩ := hx6.two
  have hbb : (isParty xs s != isParty xs s) = false := by simp
  go_wp2_with fail
  go_region_held3 (fun w' => (w'.cell? ⟨w4.heap.size, 0, none⟩ = some (.slice (some ⟨g4, 0, none⟩) n n) ∧ w'.cell? ⟨w4.heap.size, 1, none⟩ = some (.int .i64 s)) ∧ (w'.cell? ⟨w.heap.size, 0, none⟩ = some (.slice A n c) ∧ w'.cell? ⟨w.heap.size, 1, none⟩ = some (.int .i64 s))) (go_keep)
    (first | (go_at_call 50; refine (toParty_own A n c xs s _ (by exact hA6.drew) HX.out hn).mono ?_; rintro e w7 ⟨g7, rfl, hg7, hw7, hb7⟩; obtain ⟨k0, k1, -, -⟩ := (hx6.drew.below hb7).two; obtain ⟨k2, k3, -, -⟩ := (hp6.drew.below hb7).two) | (go_at_call 51; refine (eqParty_yes _ _ n _ _ xs s _ (hw6.drew.below hb7).holds hw7.holds HX.out (by omega)).mono ?_; rintro e w8 ⟨rfl, hb8⟩; obtain ⟨l0, l1, -, -⟩ := ((hx6.drew.below hb7).below hb8).two; obtain ⟨l2, l3, -, -⟩ := ((hp6.drew.below hb7).below hb8).two))
  go_wp2
  go_ret
  exact ⟨rfl, below_then (below_then ht6.drew hb7 ht6.size) hb8 (Nat.le_trans ht6.size hb7.size)⟩
end Go.Proofs.Ythhlfbcgmpappaa
