/-
  What is proved: the law FnExactCanCross returns true at every party-like and state-like argument and list, and leaves all that was there as it was. Conditions: the arguments are read as they lie.
-/
import Derived.Test.YthhlfbcgmpappaaCanC
import Derived.Deep.RegionHeld3
namespace Go.Proofs.Ythhlfbcgmpappaa
open Go.RowKit

set_option maxHeartbeats 400000 in
theorem lawCanCross_big (A B D : Option Addr) (n c m d q z : Nat) (s : Int) (t : Bool) (w : World) (hbig : (1048576 : Int) < q) :
    Calls Try.prog 9 #[.agg #[.slice A n c, .int .i64 s], .agg #[.slice B m d, .bool t], .slice D q z] w fun e w' => e = .returned (.bool true) ∧ Below w.heap.size w w' := by
  go_enter Try.func9, Try.ntmps9
  go_wp2
  go_ret
  exact ⟨rfl, below2 w _ _⟩

set_option maxHeartbeats 400000 in
theorem lawCanCross_big0 (A B D : Option Addr) (n c m d q z : Nat) (s : Int) (t : Bool) (w : World) (hq : (q : Int) ≤ 1048576) (hn : n ≤ 9223372036854775807) (hbig : 1048576 < n) :
    Calls Try.prog 9 #[.agg #[.slice A n c, .int .i64 s], .agg #[.slice B m d, .bool t], .slice D q z] w fun e w' => e = .returned (.bool true) ∧ Below w.heap.size w w' := by
  go_enter Try.func9, Try.ntmps9
  go_wp2_with fail
  refine (szParty_any A n c s 1048576 _ hn (by omega) (by omega)).mono ?_
  rintro e w1 ⟨rfl, hb1⟩
  rw [if_pos (by omega)]
  go_wp2
  go_ret
  exact ⟨rfl, below_then (below2 w _ _) hb1 (by simp; omega)⟩

set_option maxHeartbeats 400000 in
theorem lawCanCross_big1 (A B D : Option Addr) (n c m d q z : Nat) (s : Int) (t : Bool) (w : World) (hq : (q : Int) ≤ 1048576) (hn : n ≤ 1048576) (hm : m ≤ 9223372036854775807) (hbig : 1048576 < n + m) :
    Calls Try.prog 9 #[.agg #[.slice A n c, .int .i64 s], .agg #[.slice B m d, .bool t], .slice D q z] w fun e w' => e = .returned (.bool true) ∧ Below w.heap.size w w' := by
  have hp := (Whole.fresh w 55 #[.slice A n c, .int .i64 s]).alloc (.cells #[.slice B m d, .bool t] 60)
  have hk := Whole.fresh (w.alloc (.cells #[.slice A n c, .int .i64 s] 55)) 60 #[.slice B m d, .bool t]
  rw [World.size_alloc] at hk
  go_enter Try.func9, Try.ntmps9
  go_wp2_with fail
  refine (szParty_any A n c s 1048576 _ (by omega) (by omega) (by omega)).mono ?_
  rintro e w1 ⟨rfl, hb⟩
  rw [if_neg (by omega)]
  have ht := below_then (below2 w _ _) hb (by simp; omega)
  obtain ⟨c0, c1, -, -⟩ := (hp.below hb).two
  obtain ⟨d0, d1, -, -⟩ := (hk.below hb).two
  clear hb hp hk
  have hleft : (0 : Int) ≤ 1048576 - n := by omega
  go_wp2_with fail
  refine (szState_any B m d t (1048576 - (n : Int)) _ hm (by omega) (by omega)).mono ?_
  rintro e w2 ⟨rfl, hb⟩
  rw [if_pos (by omega)]
  go_wp2
  go_ret
  exact ⟨rfl, below_then ht hb ht.size⟩

set_option maxHeartbeats 3200000 in
theorem lawCanCross_small (A B D : Option Addr) (n c m d q z : Nat) (xs : List Int) (bs : List Bool) (l : List Int) (s : Int) (t : Bool) (w : World) (hA : Holds w A (nums xs)) (hB : Holds w B (bits bs)) (hD : Holds w D (nums l)) (hx : xs.length = n) (hy : bs.length = m) (hz : l.length = q) (hn : n + m ≤ 1048576) (hq : (q : Int) ≤ 1048576) :
    Calls Try.prog 9 #[.agg #[.slice A n c, .int .i64 s], .agg #[.slice B m d, .bool t], .slice D q z] w fun e w' => e = .returned (.bool true) ∧ Below w.heap.size w w' := by
  have HX := Lib.hid hx
  have HY := Lib.hid hy
  have HZ := Lib.hid hz
  clear hx hy hz
  have hp := (Whole.fresh w 55 #[.slice A n c, .int .i64 s]).alloc (.cells #[.slice B m d, .bool t] 60)
  have hk := Whole.fresh (w.alloc (.cells #[.slice A n c, .int .i64 s] 55)) 60 #[.slice B m d, .bool t]
  rw [World.size_alloc] at hk
  replace hA := (hA.alloc (.cells #[.slice A n c, .int .i64 s] 55)).alloc (.cells #[.slice B m d, .bool t] 60)
  replace hB := (hB.alloc (.cells #[.slice A n c, .int .i64 s] 55)).alloc (.cells #[.slice B m d, .bool t] 60)
  replace hD := (hD.alloc (.cells #[.slice A n c, .int .i64 s] 55)).alloc (.cells #[.slice B m d, .bool t] 60)
  go_enter Try.func9, Try.ntmps9
  go_wp2_with fail
  refine (szParty_any A n c s 1048576 _ (by omega) (by omega) (by omega)).mono ?_
  rintro e w1 ⟨rfl, hb⟩
  rw [if_neg (by omega)]
  have ht := below_then (below2 w _ _) hb (by simp; omega)
  replace hp := hp.below hb
  replace hk := hk.below hb
  replace hA := hA.below hb
  replace hB := hB.below hb
  replace hD := hD.below hb
  clear hb
  obtain ⟨c0, c1, -, -⟩ := hp.two
  obtain ⟨d0, d1, -, -⟩ := hk.two
  have hleft : (0 : Int) ≤ 1048576 - n := by omega
  go_wp2_with fail
  refine (szState_any B m d t (1048576 - (n : Int)) _ (by omega) (by omega) (by omega)).mono ?_
  rintro e w2 ⟨rfl, hb⟩
  rw [if_neg (by omega)]
  replace ht := below_then ht hb ht.size
  replace hp := hp.below hb
  replace hk := hk.below hb
  replace hA := hA.below hb
  replace hB := hB.below hb
  replace hD := hD.below hb
  clear hb c0 c1 d0 d1
  obtain ⟨c0, c1, -, -⟩ := hp.two
  obtain ⟨d0, d1, -, -⟩ := hk.two
  have hleft2 : (0 : Int) ≤ 1048576 - n - m := by omega
  go_wp2_with fail
  go_region_held3 (fun w' => (w'.cell? ⟨w.heap.size, 0, none⟩ = some (.slice A n c) ∧ w'.cell? ⟨w.heap.size, 1, none⟩ = some (.int .i64 s)) ∧ (w'.cell? ⟨w.heap.size + 1, 0, none⟩ = some (.slice B m d) ∧ w'.cell? ⟨w.heap.size + 1, 1, none⟩ = some (.bool t))) (go_keep)
    (first | (go_at_call 50; refine (toParty_own A n c xs s _ (by exact hA.drew) HX.out (by omega)).mono ?_; rintro e w3 ⟨g3, rfl, hg3, hw3, hb3⟩; obtain ⟨k0, k1, -, -⟩ := (hp.drew.below hb3).two; obtain ⟨k2, k3, -, -⟩ := (hk.drew.below hb3).two) | (go_at_call 53; refine (toState_own B m d bs t _ (by exact hB.drew.below hb3) HY.out (by omega)).mono ?_; rintro e w4 ⟨g4, rfl, hg4, hw4, hb4⟩; obtain ⟨l0, l1, -, -⟩ := ((hp.drew.below hb3).below hb4).two; obtain ⟨l2, l3, -, -⟩ := ((hk.drew.below hb3).below hb4).two) | (go_at_call 62; refine (toIntS_own D q z l _ (by exact (hD.drew.below hb3).below hb4) HZ.out (by omega)).mono ?_; rintro e w5 ⟨g5, rfl, hg5, hw5, hb5⟩; obtain ⟨m0, m1, -, -⟩ := (((hp.drew.below hb3).below hb4).below hb5).two; obtain ⟨m2, m3, -, -⟩ := (((hk.drew.below hb3).below hb4).below hb5).two) | (go_at_call 28; refine (specCanCross_any _ _ _ _ _ _ _ _ _ xs bs l s t _ ((hw3.below hb4).below hb5).holds (hw4.below hb5).holds hw5.holds HX.out HY.out HZ.out (by omega) (by omega) (by omega)).mono ?_; rintro e w5b ⟨rfl, hb5b⟩; obtain ⟨n0, n1, -, -⟩ := ((((hp.drew.below hb3).below hb4).below hb5).below hb5b).two; obtain ⟨n2, n3, -, -⟩ := ((((hk.drew.below hb3).below hb4).below hb5).below hb5b).two))
  replace ht := below_then (below_then (below_then (below_then ht.drew hb3 ht.size) hb4 (Nat.le_trans ht.size hb3.size)) hb5 (Nat.le_trans ht.size (Nat.le_trans hb3.size hb4.size))) hb5b (Nat.le_trans ht.size (Nat.le_trans hb3.size (Nat.le_trans hb4.size hb5.size)))
  replace hp := (((hp.drew.below hb3).below hb4).below hb5).below hb5b
  replace hk := (((hk.drew.below hb3).below hb4).below hb5).below hb5b
  replace hA := (((hA.drew.below hb3).below hb4).below hb5).below hb5b
  replace hB := (((hB.drew.below hb3).below hb4).below hb5).below hb5b
  replace hD := (((hD.drew.below hb3).below hb4).below hb5).below hb5b
  clear hw3 hw4 hw5 hg3 hg4 hg5 hb3 hb4 hb5 hb5b c0 c1 d0 d1
  obtain ⟨c0, c1, -, -⟩ := hp.two
  obtain ⟨d0, d1, -, -⟩ := hk.two
  go_wp2_with fail
  refine (toParty_own A n c xs s _ hA HX.out (by omega)).mono ?_
  rintro e w6 ⟨g6, rfl, hg6, hw6, hb⟩
  replace ht := below_then ht hb ht.size
  replace hp := hp.below hb
  replace hk := hk.below hb
  replace hA := hA.below hb
  replace hB := hB.below hb
  replace hD := hD.below hb
  clear hb hg6 c0 c1 d0 d1
  have hx6 := Whole.fresh w6 26 #[.slice (some ⟨g6, 0, none⟩) n n, .int .i64 s]
  replace ht := below_then ht (below1 w6 (.cells #[.slice (some ⟨g6, 0, none⟩) n n, .int .i64 s] 26)) ht.size
  replace hp := hp.alloc (.cells #[.slice (some ⟨g6, 0, none⟩) n n, .int .i64 s] 26)
  replace hk := hk.alloc (.cells #[.slice (some ⟨g6, 0, none⟩) n n, .int .i64 s] 26)
  replace hA := hA.alloc (.cells #[.slice (some ⟨g6, 0, none⟩) n n, .int .i64 s] 26)
  replace hB := hB.alloc (.cells #[.slice (some ⟨g6, 0, none⟩) n n, .int .i64 s] 26)
  replace hD := hD.alloc (.cells #[.slice (some ⟨g6, 0, none⟩) n n, .int .i64 s] 26)
  replace hw6 := hw6.alloc (.cells #[.slice (some ⟨g6, 0, none⟩) n n, .int .i64 s] 26)
  obtain ⟨c0, c1, -, -⟩ := hp.two
  obtain ⟨d0, d1, -, -⟩ := hk.two
  obtain ⟨x0, x1, -, -⟩ := hx6.two
  have hlp := hp.lt
  have hlq := hk.lt
  have hlx := hx6.lt
  go_wp2_with fail
  refine (toState_own B m d bs t _ hB HY.out (by omega)).mono ?_
  rintro e w7 ⟨g7, rfl, hg7, hw7, hb⟩
  replace ht := below_then ht hb ht.size
  replace hp := hp.below hb
  replace hk := hk.below hb
  replace hA := hA.below hb
  replace hB := hB.below hb
  replace hD := hD.below hb
  replace hw6 := hw6.below hb
  replace hx6 := hx6.below hb
  clear hb hg7 c0 c1 d0 d1 x0 x1 hlp hlq hlx
  have hx7 := Whole.fresh w7 29 #[.slice (some ⟨g7, 0, none⟩) m m, .bool t]
  replace ht := below_then ht (below1 w7 (.cells #[.slice (some ⟨g7, 0, none⟩) m m, .bool t] 29)) ht.size
  replace hp := hp.alloc (.cells #[.slice (some ⟨g7, 0, none⟩) m m, .bool t] 29)
  replace hk := hk.alloc (.cells #[.slice (some ⟨g7, 0, none⟩) m m, .bool t] 29)
  replace hA := hA.alloc (.cells #[.slice (some ⟨g7, 0, none⟩) m m, .bool t] 29)
  replace hB := hB.alloc (.cells #[.slice (some ⟨g7, 0, none⟩) m m, .bool t] 29)
  replace hD := hD.alloc (.cells #[.slice (some ⟨g7, 0, none⟩) m m, .bool t] 29)
  replace hw6 := hw6.alloc (.cells #[.slice (some ⟨g7, 0, none⟩) m m, .bool t] 29)
  replace hx6 := hx6.alloc (.cells #[.slice (some ⟨g7, 0, none⟩) m m, .bool t] 29)
  replace hw7 := hw7.alloc (.cells #[.slice (some ⟨g7, 0, none⟩) m m, .bool t] 29)
  have hlp := hp.lt
  have hlq := hk.lt
  have hlx := hx6.lt
  have hly := hx7.lt
  obtain ⟨c0, c1, -, -⟩ := hp.two
  obtain ⟨d0, d1, -, -⟩ := hk.two
  obtain ⟨x0, x1, -, -⟩ := hx6.two
  obtain ⟨y0, y1, -, -⟩ := hx7.two
  go_wp2_with fail
  refine (toIntS_own D q z l _ hD HZ.out (by omega)).mono ?_
  rintro e w7b ⟨g7b, rfl, hg7b, hw7b, hb⟩
  replace ht := below_then ht hb ht.size
  replace hp := hp.below hb
  replace hk := hk.below hb
  replace hA := hA.below hb
  replace hB := hB.below hb
  replace hD := hD.below hb
  replace hw6 := hw6.below hb
  replace hx6 := hx6.below hb
  replace hw7 := hw7.below hb
  replace hx7 := hx7.below hb
  clear hb hg7b c0 c1 d0 d1 x0 x1 y0 y1 hlp hlq hlx hly
  obtain ⟨c0, c1, -, -⟩ := hp.two
  obtain ⟨d0, d1, -, -⟩ := hk.two
  obtain ⟨x0, x1, -, -⟩ := hx6.two
  obtain ⟨y0, y1, -, -⟩ := hx7.two
  go_wp2_with fail
  refine (implCanCross_any _ _ _ _ _ _ _ _ _ xs bs l s t _ hw6.holds hw7.holds hw7b.holds HX.out HY.out HZ.out (by omega) (by omega) (by omega)).mono ?_
  rintro e w8 ⟨rfl, hb⟩
  replace ht := below_then ht hb ht.size
  replace hp := hp.below hb
  replace hk := hk.below hb
  replace hA := hA.below hb
  replace hB := hB.below hb
  replace hD := hD.below hb
  replace hw6 := hw6.below hb
  replace hx6 := hx6.below hb
  replace hw7 := hw7.below hb
  replace hx7 := hx7.below hb
  replace hw7b := hw7b.below hb
  clear hb c0 c1 d0 d1 x0 x1 y0 y1
  obtain ⟨c0, c1, -, -⟩ := hp.two
  obtain ⟨x0, x1, -, -⟩ := hx6.two
  go_wp2_with fail
  go_region_held3 (fun w' => (w'.cell? ⟨w6.heap.size, 0, none⟩ = some (.slice (some ⟨g6, 0, none⟩) n n) ∧ w'.cell? ⟨w6.heap.size, 1, none⟩ = some (.int .i64 s)) ∧ (w'.cell? ⟨w.heap.size, 0, none⟩ = some (.slice A n c) ∧ w'.cell? ⟨w.heap.size, 1, none⟩ = some (.int .i64 s))) (go_keep)
    (first | (go_at_call 50; refine (toParty_own A n c xs s _ (by exact hA.drew) HX.out (by omega)).mono ?_; rintro e w9 ⟨g9, rfl, hg9, hw9, hb9⟩; obtain ⟨k0, k1, -, -⟩ := (hx6.drew.below hb9).two; obtain ⟨k2, k3, -, -⟩ := (hp.drew.below hb9).two) | (go_at_call 51; refine (eqParty_yes _ _ n _ _ xs s _ (hw6.drew.below hb9).holds hw9.holds HX.out (by omega)).mono ?_; rintro e w10 ⟨rfl, hb10⟩; obtain ⟨l0, l1, -, -⟩ := ((hx6.drew.below hb9).below hb10).two; obtain ⟨l2, l3, -, -⟩ := ((hp.drew.below hb9).below hb10).two))
  replace ht := below_then (below_then ht.drew hb9 ht.size) hb10 (Nat.le_trans ht.size hb9.size)
  replace hk := (hk.drew.below hb9).below hb10
  replace hB := (hB.drew.below hb9).below hb10
  replace hD := (hD.drew.below hb9).below hb10
  replace hw7 := (hw7.drew.below hb9).below hb10
  replace hx7 := (hx7.drew.below hb9).below hb10
  replace hw7b := (hw7b.drew.below hb9).below hb10
  clear hp hA hw6 hx6 hw9 hg9 hb9 hb10 c0 c1 x0 x1
  obtain ⟨d0, d1, -, -⟩ := hk.two
  obtain ⟨y0, y1, -, -⟩ := hx7.two
  go_wp2_with fail
  go_region_held3 (fun w' => (w'.cell? ⟨w7.heap.size, 0, none⟩ = some (.slice (some ⟨g7, 0, none⟩) m m) ∧ w'.cell? ⟨w7.heap.size, 1, none⟩ = some (.bool t)) ∧ (w'.cell? ⟨w.heap.size + 1, 0, none⟩ = some (.slice B m d) ∧ w'.cell? ⟨w.heap.size + 1, 1, none⟩ = some (.bool t))) (go_keep)
    (first | (go_at_call 53; refine (toState_own B m d bs t _ (by exact hB.drew) HY.out (by omega)).mono ?_; rintro e w11 ⟨g11, rfl, hg11, hw11, hb11⟩; obtain ⟨k0, k1, -, -⟩ := (hx7.drew.below hb11).two; obtain ⟨k2, k3, -, -⟩ := (hk.drew.below hb11).two) | (go_at_call 54; refine (eqState_yes _ _ m _ _ bs t _ (hw7.drew.below hb11).holds hw11.holds HY.out (by omega)).mono ?_; rintro e w12 ⟨rfl, hb12⟩; obtain ⟨l0, l1, -, -⟩ := ((hx7.drew.below hb11).below hb12).two; obtain ⟨l2, l3, -, -⟩ := ((hk.drew.below hb11).below hb12).two))
  replace ht := below_then (below_then ht.drew hb11 ht.size) hb12 (Nat.le_trans ht.size hb11.size)
  replace hD := (hD.drew.below hb11).below hb12
  replace hw7b := (hw7b.drew.below hb11).below hb12
  clear hk hB hw7 hx7 hw11 hg11 hb11 hb12 d0 d1 y0 y1
  go_wp2_with fail
  refine (toIntS_own D q z l _ hD HZ.out (by omega)).mono ?_
  rintro e w13 ⟨g13, rfl, hg13, hw13, hb⟩
  replace ht := below_then ht hb ht.size
  replace hw7b := hw7b.below hb
  clear hb
  go_wp2_with fail
  refine (eqIntS_yes _ _ q _ _ l _ hw7b.holds hw13.holds HZ.out (by omega)).mono ?_
  rintro e w14 ⟨rfl, hb⟩
  go_wp2
  go_ret
  exact ⟨rfl, below_then ht hb ht.size⟩

theorem lawCanCross_all (A : Option Addr) (n c : Nat) (xs : List Int) (s : Int) (B : Option Addr) (m d : Nat) (bs : List Bool) (t : Bool) (D : Option Addr) (q z : Nat) (l : List Int) (w : World) (hA : Holds w A (nums xs)) (hx : xs.length = n) (hn : n ≤ 9223372036854775807) (hB : Holds w B (bits bs)) (hy : bs.length = m) (hm : m ≤ 9223372036854775807) (hD : Holds w D (nums l)) (hz : l.length = q) (_hq : q ≤ 9223372036854775807) :
    Calls Try.prog 9 #[.agg #[.slice A n c, .int .i64 s], .agg #[.slice B m d, .bool t], .slice D q z] w fun e w' => e = .returned (.bool true) ∧ Below w.heap.size w w' := by
  by_cases h3 : (q : Int) ≤ 1048576
  · by_cases h : n ≤ 1048576
    · by_cases h2 : n + m ≤ 1048576
      · exact lawCanCross_small A B D n c m d q z xs bs l s t w hA hB hD hx hy hz h2 h3
      · exact lawCanCross_big1 A B D n c m d q z s t w h3 h hm (by omega)
    · exact lawCanCross_big0 A B D n c m d q z s t w h3 hn (by omega)
  · exact lawCanCross_big A B D n c m d q z s t w (by omega)
end Go.Proofs.Ythhlfbcgmpappaa
