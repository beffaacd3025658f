/-
  What is proved: the law FnExactTripTime returns true at every party-like argument and list, and leaves all that was there as it was. Conditions: the arguments are read as they lie.
-/
import Derived.Test.YthhlfbcgmpappaaTripT
import Derived.Deep.RegionHeld3
namespace Go.Proofs.Ythhlfbcgmpappaa
open Go.RowKit

set_option maxHeartbeats 400000 in
theorem lawTripTime_big0 (A B : Option Addr) (n c m d : Nat) (s : Int) (w : World) (hbig : (1048576 : Int) < m) :
    Calls Try.prog 11 #[.agg #[.slice A n c, .int .i64 s], .slice B m d] w fun e w' => e = .returned (.bool true) ∧ Below w.heap.size w w' := by
  go_enter Try.func11, Try.ntmps11
  go_wp2
  go_ret
  exact ⟨rfl, below1 w _⟩

set_option maxHeartbeats 400000 in
theorem lawTripTime_big1 (A B : Option Addr) (n c m d : Nat) (s : Int) (w : World) (hn : n ≤ 9223372036854775807) (hm : (m : Int) ≤ 1048576) (hbig : 1048576 < n) :
    Calls Try.prog 11 #[.agg #[.slice A n c, .int .i64 s], .slice B m d] w fun e w' => e = .returned (.bool true) ∧ Below w.heap.size w w' := by
  go_enter Try.func11, Try.ntmps11
  go_wp2_with fail
  refine (szParty_any A n c s 1048576 _ hn (by omega) (by omega)).mono ?_
  rintro e w1 ⟨rfl, hb1⟩
  rw [if_pos (by omega)]
  go_wp2
  go_ret
  exact ⟨rfl, below_then (below1 w _) hb1 (by simp)⟩

set_option maxHeartbeats 1600000 in
theorem lawTripTime_small (A B : Option Addr) (n c m d : Nat) (xs l : List Int) (s : Int) (w : World) (hA : Holds w A (nums xs)) (hB : Holds w B (nums l)) (hx : xs.length = n) (hy : l.length = m) (hn : n ≤ 1048576) (hm : (m : Int) ≤ 1048576) :
    Calls Try.prog 11 #[.agg #[.slice A n c, .int .i64 s], .slice B m d] w fun e w' => e = .returned (.bool true) ∧ Below w.heap.size w w' := by
  have HX := Lib.hid hx
  have HY := Lib.hid hy
  clear hx hy
  have hp := Whole.fresh w 55 #[.slice A n c, .int .i64 s]
  replace hA := hA.alloc (.cells #[.slice A n c, .int .i64 s] 55)
  replace hB := hB.alloc (.cells #[.slice A n c, .int .i64 s] 55)
  go_enter Try.func11, Try.ntmps11
  go_wp2_with fail
  refine (szParty_any A n c s 1048576 _ (by omega) (by omega) (by omega)).mono ?_
  rintro e w1 ⟨rfl, hb⟩
  rw [if_neg (by omega)]
  have ht := below_then (below1 w _) hb (by simp)
  replace hp := hp.below hb
  replace hA := hA.below hb
  replace hB := hB.below hb
  clear hb
  obtain ⟨c0, c1, -, -⟩ := hp.two
  have hleft : (0 : Int) ≤ 1048576 - n := by omega
  go_wp2_with fail
  -- the model
  refine (toParty_own A n c xs s _ hA HX.out (by omega)).mono ?_
  rintro e w2 ⟨g2, rfl, hg2, hw2, hb⟩
  replace ht := below_then ht hb ht.size
  replace hp := hp.below hb
  replace hA := hA.below hb
  replace hB := hB.below hb
  clear hb hg2 c0 c1
  obtain ⟨c0, c1, -, -⟩ := hp.two
  go_wp2_with fail
  refine (toIntS_own B m d l _ hB HY.out (by omega)).mono ?_
  rintro e w3 ⟨g3, rfl, hg3, hw3, hb⟩
  replace ht := below_then ht hb ht.size
  replace hp := hp.below hb
  replace hA := hA.below hb
  replace hB := hB.below hb
  replace hw2 := hw2.below hb
  clear hb hg3 c0 c1
  obtain ⟨c0, c1, -, -⟩ := hp.two
  go_wp2_with fail
  refine (specTripTime_any _ _ _ _ _ _ xs l s _ hw2.holds hw3.holds HX.out HY.out (by omega) (by omega)).mono ?_
  rintro e w4 ⟨rfl, hb⟩
  replace ht := below_then ht hb ht.size
  replace hp := hp.below hb
  replace hA := hA.below hb
  replace hB := hB.below hb
  clear hb hw2 hw3 c0 c1
  obtain ⟨c0, c1, -, -⟩ := hp.two
  go_wp2_with fail
  -- the program
  refine (toParty_own A n c xs s _ hA HX.out (by omega)).mono ?_
  rintro e w6 ⟨g6, rfl, hg6, hw6, hb⟩
  replace ht := below_then ht hb ht.size
  replace hp := hp.below hb
  replace hA := hA.below hb
  replace hB := hB.below hb
  clear hb hg6 c0 c1
  have hx6 := Whole.fresh w6 26 #[.slice (some ⟨g6, 0, none⟩) n n, .int .i64 s]
  replace ht := below_then ht (below1 w6 (.cells #[.slice (some ⟨g6, 0, none⟩) n n, .int .i64 s] 26)) ht.size
  replace hp := hp.alloc (.cells #[.slice (some ⟨g6, 0, none⟩) n n, .int .i64 s] 26)
  replace hA := hA.alloc (.cells #[.slice (some ⟨g6, 0, none⟩) n n, .int .i64 s] 26)
  replace hB := hB.alloc (.cells #[.slice (some ⟨g6, 0, none⟩) n n, .int .i64 s] 26)
  replace hw6 := hw6.alloc (.cells #[.slice (some ⟨g6, 0, none⟩) n n, .int .i64 s] 26)
  obtain ⟨c0, c1, -, -⟩ := hp.two
  obtain ⟨x0, x1, -, -⟩ := hx6.two
  go_wp2_with fail
  refine (toIntS_own B m d l _ hB HY.out (by omega)).mono ?_
  rintro e w7 ⟨g7, rfl, hg7, hw7, hb⟩
  replace ht := below_then ht hb ht.size
  replace hp := hp.below hb
  replace hA := hA.below hb
  replace hB := hB.below hb
  replace hw6 := hw6.below hb
  replace hx6 := hx6.below hb
  clear hb hg7 c0 c1 x0 x1
  obtain ⟨c0, c1, -, -⟩ := hp.two
  obtain ⟨x0, x1, -, -⟩ := hx6.two
  go_wp2_with fail
  refine (implTripTime_any _ _ _ _ _ _ xs l s _ hw6.holds hw7.holds HX.out HY.out (by omega) (by omega)).mono ?_
  rintro e w8 ⟨rfl, hb⟩
  replace ht := below_then ht hb ht.size
  replace hp := hp.below hb
  replace hA := hA.below hb
  replace hB := hB.below hb
  replace hw6 := hw6.below hb
  replace hx6 := hx6.below hb
  replace hw7 := hw7.below hb
  clear hb c0 c1 x0 x1
  obtain ⟨c0, c1, -, -⟩ := hp.two
  obtain ⟨x0, x1, -, -⟩ := hx6.two
  go_wp2_with fail
  go_region_held3 (fun w' => (w'.cell? ⟨w6.heap.size, 0, none⟩ = some (.slice (some ⟨g6, 0, none⟩) n n) ∧ w'.cell? ⟨w6.heap.size, 1, none⟩ = some (.int .i64 s)) ∧ (w'.cell? ⟨w.heap.size, 0, none⟩ = some (.slice A n c) ∧ w'.cell? ⟨w.heap.size, 1, none⟩ = some (.int .i64 s))) (go_keep)
    (first | (go_at_call 50; refine (toParty_own A n c xs s _ (by exact hA.drew) HX.out (by omega)).mono ?_; rintro e w9 ⟨g9, rfl, hg9, hw9, hb9⟩; obtain ⟨k0, k1, -, -⟩ := (hx6.drew.below hb9).two; obtain ⟨k2, k3, -, -⟩ := (hp.drew.below hb9).two) | (go_at_call 51; refine (eqParty_yes _ _ n _ _ xs s _ (hw6.drew.below hb9).holds hw9.holds HX.out (by omega)).mono ?_; rintro e w10 ⟨rfl, hb10⟩; obtain ⟨l0, l1, -, -⟩ := ((hx6.drew.below hb9).below hb10).two; obtain ⟨l2, l3, -, -⟩ := ((hp.drew.below hb9).below hb10).two))
  replace ht := below_then (below_then ht.drew hb9 ht.size) hb10 (Nat.le_trans ht.size hb9.size)
  replace hB := (hB.drew.below hb9).below hb10
  replace hw7 := (hw7.drew.below hb9).below hb10
  clear hp hA hw6 hx6 hw9 hg9 hb9 hb10 c0 c1 x0 x1
  go_wp2_with fail
  refine (toIntS_own B m d l _ hB HY.out (by omega)).mono ?_
  rintro e w11 ⟨g11, rfl, hg11, hw11, hb⟩
  replace ht := below_then ht hb ht.size
  replace hw7 := hw7.below hb
  clear hb
  go_wp2_with fail
  refine (eqIntS_yes _ _ m _ _ l _ hw7.holds hw11.holds HY.out (by omega)).mono ?_
  rintro e w12 ⟨rfl, hb⟩
  go_wp2
  go_ret
  exact ⟨rfl, below_then ht hb ht.size⟩

theorem lawTripTime_all (A : Option Addr) (n c : Nat) (xs : List Int) (s : Int) (B : Option Addr) (m d : Nat) (l : List Int) (w : World) (hA : Holds w A (nums xs)) (hx : xs.length = n) (hn : n ≤ 9223372036854775807) (hB : Holds w B (nums l)) (hy : l.length = m) (_hm : m ≤ 9223372036854775807) :
    Calls Try.prog 11 #[.agg #[.slice A n c, .int .i64 s], .slice B m d] w fun e w' => e = .returned (.bool true) ∧ Below w.heap.size w w' := by
  by_cases h2 : (m : Int) ≤ 1048576
  · by_cases h : n ≤ 1048576
    · exact lawTripTime_small A B n c m d xs l s w hA hB hx hy h h2
    · exact lawTripTime_big1 A B n c m d s w hn h2 (by omega)
  · exact lawTripTime_big0 A B n c m d s w (by omega)
end Go.Proofs.Ythhlfbcgmpappaa
