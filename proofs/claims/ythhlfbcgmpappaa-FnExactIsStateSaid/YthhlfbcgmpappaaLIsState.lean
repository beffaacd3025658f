/-
  What is proved: the law FnExactIsState returns true at every party-like and state-like argument, and leaves all that was there as it was. Conditions: the arguments are read as they lie.
-/
import Derived.Test.YthhlfbcgmpappaaImSt
import Derived.Deep.RegionHeld3
namespace Go.Proofs.Ythhlfbcgmpappaa
open Go.RowKit

set_option maxHeartbeats 400000 in
theorem lawIsState_big0 (A B : Option Addr) (n c m d : Nat) (s : Int) (t : Bool) (w : World) (hn : n ≤ 9223372036854775807) (hbig : 1048576 < n) :
    Calls Try.prog 6 #[.agg #[.slice A n c, .int .i64 s], .agg #[.slice B m d, .bool t]] w fun e w' => e = .returned (.bool true) ∧ Below w.heap.size w w' := by
  go_enter Try.func6, Try.ntmps6
  go_wp2_with fail
  refine (szParty_any A n c s 1048576 _ hn (by omega) (by omega)).mono ?_
  rintro e w1 ⟨rfl, hb1⟩
  rw [if_pos (by omega)]
  go_wp2
  go_ret
  exact ⟨rfl, below_then (below2 w _ _) hb1 (by simp; omega)⟩

set_option maxHeartbeats 400000 in
theorem lawIsState_big1 (A B : Option Addr) (n c m d : Nat) (s : Int) (t : Bool) (w : World) (hn : n ≤ 1048576) (hm : m ≤ 9223372036854775807) (hbig : 1048576 < n + m) :
    Calls Try.prog 6 #[.agg #[.slice A n c, .int .i64 s], .agg #[.slice B m d, .bool t]] w fun e w' => e = .returned (.bool true) ∧ Below w.heap.size w w' := by
  have hp := (Whole.fresh w 55 #[.slice A n c, .int .i64 s]).alloc (.cells #[.slice B m d, .bool t] 60)
  have hq := Whole.fresh (w.alloc (.cells #[.slice A n c, .int .i64 s] 55)) 60 #[.slice B m d, .bool t]
  rw [World.size_alloc] at hq
  go_enter Try.func6, Try.ntmps6
  go_wp2_with fail
  refine (szParty_any A n c s 1048576 _ (by omega) (by omega) (by omega)).mono ?_
  rintro e w1 ⟨rfl, hb⟩
  rw [if_neg (by omega)]
  have ht := below_then (below2 w _ _) hb (by simp; omega)
  obtain ⟨c0, c1, -, -⟩ := (hp.below hb).two
  obtain ⟨d0, d1, -, -⟩ := (hq.below hb).two
  clear hb hp hq
  have hleft : (0 : Int) ≤ 1048576 - n := by omega
  go_wp2_with fail
  refine (szState_any B m d t (1048576 - (n : Int)) _ hm (by omega) (by omega)).mono ?_
  rintro e w2 ⟨rfl, hb⟩
  rw [if_pos (by omega)]
  go_wp2
  go_ret
  exact ⟨rfl, below_then ht hb ht.size⟩

set_option maxHeartbeats 1600000 in
theorem lawIsState_small (A B : Option Addr) (n c m d : Nat) (xs : List Int) (bs : List Bool) (s : Int) (t : Bool) (w : World) (hA : Holds w A (nums xs)) (hB : Holds w B (bits bs)) (hx : xs.length = n) (hy : bs.length = m) (hn : n + m ≤ 1048576) :
    Calls Try.prog 6 #[.agg #[.slice A n c, .int .i64 s], .agg #[.slice B m d, .bool t]] w fun e w' => e = .returned (.bool true) ∧ Below w.heap.size w w' := by
  have HX := Lib.hid hx
  have HY := Lib.hid hy
  clear hx hy
  have hp := (Whole.fresh w 55 #[.slice A n c, .int .i64 s]).alloc (.cells #[.slice B m d, .bool t] 60)
  have hq := Whole.fresh (w.alloc (.cells #[.slice A n c, .int .i64 s] 55)) 60 #[.slice B m d, .bool t]
  rw [World.size_alloc] at hq
  replace hA := (hA.alloc (.cells #[.slice A n c, .int .i64 s] 55)).alloc (.cells #[.slice B m d, .bool t] 60)
  replace hB := (hB.alloc (.cells #[.slice A n c, .int .i64 s] 55)).alloc (.cells #[.slice B m d, .bool t] 60)
  go_enter Try.func6, Try.ntmps6
  go_wp2_with fail
  refine (szParty_any A n c s 1048576 _ (by omega) (by omega) (by omega)).mono ?_
  rintro e w1 ⟨rfl, hb⟩
  rw [if_neg (by omega)]
  have ht := below_then (below2 w _ _) hb (by simp; omega)
  replace hp := hp.below hb
  replace hq := hq.below hb
  replace hA := hA.below hb
  replace hB := hB.below hb
  clear hb
  obtain ⟨c0, c1, -, -⟩ := hp.two
  obtain ⟨d0, d1, -, -⟩ := hq.two
  have hleft : (0 : Int) ≤ 1048576 - n := by omega
  go_wp2_with fail
  refine (szState_any B m d t (1048576 - (n : Int)) _ (by omega) (by omega) (by omega)).mono ?_
  rintro e w2 ⟨rfl, hb⟩
  rw [if_neg (by omega)]
  replace ht := below_then ht hb ht.size
  replace hp := hp.below hb
  replace hq := hq.below hb
  replace hA := hA.below hb
  replace hB := hB.below hb
  clear hb c0 c1 d0 d1
  obtain ⟨c0, c1, -, -⟩ := hp.two
  obtain ⟨d0, d1, -, -⟩ := hq.two
  have hleft2 : (0 : Int) ≤ 1048576 - n - m := by omega
  go_wp2_with fail
  go_region_held3 (fun w' => (w'.cell? ⟨w.heap.size, 0, none⟩ = some (.slice A n c) ∧ w'.cell? ⟨w.heap.size, 1, none⟩ = some (.int .i64 s)) ∧ (w'.cell? ⟨w.heap.size + 1, 0, none⟩ = some (.slice B m d) ∧ w'.cell? ⟨w.heap.size + 1, 1, none⟩ = some (.bool t))) (go_keep)
    (first | (go_at_call 50; refine (toParty_own A n c xs s _ (by exact hA.drew) HX.out (by omega)).mono ?_; rintro e w3 ⟨g3, rfl, hg3, hw3, hb3⟩; obtain ⟨k0, k1, -, -⟩ := (hp.drew.below hb3).two; obtain ⟨k2, k3, -, -⟩ := (hq.drew.below hb3).two) | (go_at_call 53; refine (toState_own B m d bs t _ (by exact hB.drew.below hb3) HY.out (by omega)).mono ?_; rintro e w4 ⟨g4, rfl, hg4, hw4, hb4⟩; obtain ⟨l0, l1, -, -⟩ := ((hp.drew.below hb3).below hb4).two; obtain ⟨l2, l3, -, -⟩ := ((hq.drew.below hb3).below hb4).two) | (go_at_call 32; refine (specIsState_any _ _ _ _ _ _ xs bs s t _ (hw3.below hb4).holds hw4.holds HX.out HY.out (by omega) (by omega)).mono ?_; rintro e w5 ⟨rfl, hb5⟩; obtain ⟨m0, m1, -, -⟩ := (((hp.drew.below hb3).below hb4).below hb5).two; obtain ⟨m2, m3, -, -⟩ := (((hq.drew.below hb3).below hb4).below hb5).two))
  replace ht := below_then (below_then (below_then ht.drew hb3 ht.size) hb4 (Nat.le_trans ht.size hb3.size)) hb5 (Nat.le_trans ht.size (Nat.le_trans hb3.size hb4.size))
  replace hp := ((hp.drew.below hb3).below hb4).below hb5
  replace hq := ((hq.drew.below hb3).below hb4).below hb5
  replace hA := ((hA.drew.below hb3).below hb4).below hb5
  replace hB := ((hB.drew.below hb3).below hb4).below hb5
  clear hw3 hw4 hg3 hg4 hb3 hb4 hb5 c0 c1 d0 d1
  obtain ⟨c0, c1, -, -⟩ := hp.two
  obtain ⟨d0, d1, -, -⟩ := hq.two
  go_wp2_with fail
  refine (toParty_own A n c xs s _ hA HX.out (by omega)).mono ?_
  rintro e w6 ⟨g6, rfl, hg6, hw6, hb⟩
  replace ht := below_then ht hb ht.size
  replace hp := hp.below hb
  replace hq := hq.below hb
  replace hA := hA.below hb
  replace hB := hB.below hb
  clear hb hg6 c0 c1 d0 d1
  have hx6 := Whole.fresh w6 26 #[.slice (some ⟨g6, 0, none⟩) n n, .int .i64 s]
  replace ht := below_then ht (below1 w6 (.cells #[.slice (some ⟨g6, 0, none⟩) n n, .int .i64 s] 26)) ht.size
  replace hp := hp.alloc (.cells #[.slice (some ⟨g6, 0, none⟩) n n, .int .i64 s] 26)
  replace hq := hq.alloc (.cells #[.slice (some ⟨g6, 0, none⟩) n n, .int .i64 s] 26)
  replace hA := hA.alloc (.cells #[.slice (some ⟨g6, 0, none⟩) n n, .int .i64 s] 26)
  replace hB := hB.alloc (.cells #[.slice (some ⟨g6, 0, none⟩) n n, .int .i64 s] 26)
  replace hw6 := hw6.alloc (.cells #[.slice (some ⟨g6, 0, none⟩) n n, .int .i64 s] 26)
  obtain ⟨c0, c1, -, -⟩ := hp.two
  obtain ⟨d0, d1, -, -⟩ := hq.two
  obtain ⟨x0, x1, -, -⟩ := hx6.two
  have hlp := hp.lt
  have hlq := hq.lt
  have hlx := hx6.lt
  go_wp2_with fail
  refine (toState_own B m d bs t _ hB HY.out (by omega)).mono ?_
  rintro e w7 ⟨g7, rfl, hg7, hw7, hb⟩
  replace ht := below_then ht hb ht.size
  replace hp := hp.below hb
  replace hq := hq.below hb
  replace hA := hA.below hb
  replace hB := hB.below hb
  replace hw6 := hw6.below hb
  replace hx6 := hx6.below hb
  clear hb hg7 c0 c1 d0 d1 x0 x1 hlp hlq hlx
  have hx7 := Whole.fresh w7 29 #[.slice (some ⟨g7, 0, none⟩) m m, .bool t]
  replace ht := below_then ht (below1 w7 (.cells #[.slice (some ⟨g7, 0, none⟩) m m, .bool t] 29)) ht.size
  replace hp := hp.alloc (.cells #[.slice (some ⟨g7, 0, none⟩) m m, .bool t] 29)
  replace hq := hq.alloc (.cells #[.slice (some ⟨g7, 0, none⟩) m m, .bool t] 29)
  replace hA := hA.alloc (.cells #[.slice (some ⟨g7, 0, none⟩) m m, .bool t] 29)
  replace hB := hB.alloc (.cells #[.slice (some ⟨g7, 0, none⟩) m m, .bool t] 29)
  replace hw6 := hw6.alloc (.cells #[.slice (some ⟨g7, 0, none⟩) m m, .bool t] 29)
  replace hx6 := hx6.alloc (.cells #[.slice (some ⟨g7, 0, none⟩) m m, .bool t] 29)
  replace hw7 := hw7.alloc (.cells #[.slice (some ⟨g7, 0, none⟩) m m, .bool t] 29)
  have hlp := hp.lt
  have hlq := hq.lt
  have hlx := hx6.lt
  have hly := hx7.lt
  obtain ⟨c0, c1, -, -⟩ := hp.two
  obtain ⟨d0, d1, -, -⟩ := hq.two
  obtain ⟨x0, x1, -, -⟩ := hx6.two
  obtain ⟨y0, y1, -, -⟩ := hx7.two
  go_wp2_with fail
  refine (implIsState_any _ _ _ _ _ _ xs bs s t _ hw6.holds hw7.holds HX.out HY.out (by omega) (by omega)).mono ?_
  rintro e w8 ⟨rfl, hb⟩
  replace ht := below_then ht hb ht.size
  replace hp := hp.below hb
  replace hq := hq.below hb
  replace hA := hA.below hb
  replace hB := hB.below hb
  replace hw6 := hw6.below hb
  replace hx6 := hx6.below hb
  replace hw7 := hw7.below hb
  replace hx7 := hx7.below hb
  clear hb c0 c1 d0 d1 x0 x1 y0 y1 hlp hlq hlx hly
  obtain ⟨c0, c1, -, -⟩ := hp.two
  obtain ⟨d0, d1, -, -⟩ := hq.two
  obtain ⟨x0, x1, -, -⟩ := hx6.two
  obtain ⟨y0, y1, -, -⟩ := hx7.two
  go_wp2_with fail
  clear d0 d1 y0 y1
  go_region_held3 (fun w' => (w'.cell? ⟨w6.heap.size, 0, none⟩ = some (.slice (some ⟨g6, 0, none⟩) n n) ∧ w'.cell? ⟨w6.heap.size, 1, none⟩ = some (.int .i64 s)) ∧ (w'.cell? ⟨w.heap.size, 0, none⟩ = some (.slice A n c) ∧ w'.cell? ⟨w.heap.size, 1, none⟩ = some (.int .i64 s))) (go_keep)
    (first | (go_at_call 50; refine (toParty_own A n c xs s _ (by exact hA.drew) HX.out (by omega)).mono ?_; rintro e w9 ⟨g9, rfl, hg9, hw9, hb9⟩; obtain ⟨k0, k1, -, -⟩ := (hx6.drew.below hb9).two; obtain ⟨k2, k3, -, -⟩ := (hp.drew.below hb9).two) | (go_at_call 51; refine (eqParty_yes _ _ n _ _ xs s _ (hw6.drew.below hb9).holds hw9.holds HX.out (by omega)).mono ?_; rintro e w10 ⟨rfl, hb10⟩; obtain ⟨l0, l1, -, -⟩ := ((hx6.drew.below hb9).below hb10).two; obtain ⟨l2, l3, -, -⟩ := ((hp.drew.below hb9).below hb10).two))
  replace ht := below_then (below_then ht.drew hb9 ht.size) hb10 (Nat.le_trans ht.size hb9.size)
  replace hq := (hq.drew.below hb9).below hb10
  replace hB := (hB.drew.below hb9).below hb10
  replace hw7 := (hw7.drew.below hb9).below hb10
  replace hx7 := (hx7.drew.below hb9).below hb10
  clear hp hA hw6 hx6 hw9 hg9 hb9 hb10 c0 c1 x0 x1
  obtain ⟨d0, d1, -, -⟩ := hq.two
  obtain ⟨y0, y1, -, -⟩ := hx7.two
  go_wp2_with fail
  go_region_held3 (fun w' => (w'.cell? ⟨w7.heap.size, 0, none⟩ = some (.slice (some ⟨g7, 0, none⟩) m m) ∧ w'.cell? ⟨w7.heap.size, 1, none⟩ = some (.bool t)) ∧ (w'.cell? ⟨w.heap.size + 1, 0, none⟩ = some (.slice B m d) ∧ w'.cell? ⟨w.heap.size + 1, 1, none⟩ = some (.bool t))) (go_keep)
    (first | (go_at_call 53; refine (toState_own B m d bs t _ (by exact hB.drew) HY.out (by omega)).mono ?_; rintro e w11 ⟨g11, rfl, hg11, hw11, hb11⟩; obtain ⟨k0, k1, -, -⟩ := (hx7.drew.below hb11).two; obtain ⟨k2, k3, -, -⟩ := (hq.drew.below hb11).two) | (go_at_call 54; refine (eqState_yes _ _ m _ _ bs t _ (hw7.drew.below hb11).holds hw11.holds HY.out (by omega)).mono ?_; rintro e w12 ⟨rfl, hb12⟩; obtain ⟨l0, l1, -, -⟩ := ((hx7.drew.below hb11).below hb12).two; obtain ⟨l2, l3, -, -⟩ := ((hq.drew.below hb11).below hb12).two))
  go_wp2
  go_ret
  exact ⟨rfl, below_then (below_then ht.drew hb11 ht.size) hb12 (Nat.le_trans ht.size hb11.size)⟩

theorem lawIsState_all (A : Option Addr) (n c : Nat) (xs : List Int) (s : Int) (B : Option Addr) (m d : Nat) (bs : List Bool) (t : Bool) (w : World) (hA : Holds w A (nums xs)) (hx : xs.length = n) (hn : n ≤ 9223372036854775807) (hB : Holds w B (bits bs)) (hy : bs.length = m) (hm : m ≤ 9223372036854775807) :
    Calls Try.prog 6 #[.agg #[.slice A n c, .int .i64 s], .agg #[.slice B m d, .bool t]] w fun e w' => e = .returned (.bool true) ∧ Below w.heap.size w w' := by
  by_cases h : n ≤ 1048576
  · by_cases h2 : n + m ≤ 1048576
    · exact lawIsState_small A B n c m d xs bs s t w hA hB hx hy h2
    · exact lawIsState_big1 A B n c m d s t w h hm (by omega)
  · exact lawIsState_big0 A B n c m d s t w hn (by omega)
end Go.Proofs.Ythhlfbcgmpappaa
