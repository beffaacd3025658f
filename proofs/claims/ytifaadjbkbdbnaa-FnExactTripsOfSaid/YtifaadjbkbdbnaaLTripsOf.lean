/-
  What is proved: the law FnExactTripsOf returns true at every argument, and leaves all that was there as it was. Conditions: the arguments are read as they lie.
-/
import Derived.Test.YtifaadjbkbdbnaaTripsI
import Derived.Test.YtifaadjbkbdbnaaGrid3
import Derived.Test.YtifaadjbkbdbnaaTripT
import Derived.Test.YtifaadjbkbdbnaaMid
import Derived.Deep.RegionHeld3
import Derived.Deep.DeepCutAuto
namespace Go.Proofs.Ytifaadjbkbdbnaa
open Go.RowKit

set_option maxHeartbeats 800000 in
theorem lawTripsOf_big0 (A : Option Addr) (n c : Nat) (xs : List Int) (s : Int) (B : Option Addr) (m d : Nat) (bs : List Bool) (t : Bool) (w : World) (hA : Holds w A (nums xs)) (hx : xs.length = n) (hn : n ≤ 9223372036854775807) (hB : Holds w B (bits bs)) (hy : bs.length = m) (hm : m ≤ 9223372036854775807)  (hbig : 1048576 - (n : Int) < 0) :
    Calls Try.prog 3 #[.agg #[.slice A n c, .int .i64 s], .agg #[.slice B m d, .bool t]] w fun e w' => e = .returned (.bool true) ∧ Below w.heap.size w w' := by
  have HX := Lib.hid hx
  have HY := Lib.hid hy
  clear hx hy
  have hused := And.intro True.intro (And.intro hn (And.intro True.intro (And.intro hm hm)))
  clear hused
  have hb0 := ((Whole.fresh w 24 #[.slice A n c, .int .i64 s]).alloc (.cells #[.slice B m d, .bool t] 27))
  have hb1 := (Whole.fresh (w.alloc (.cells #[.slice A n c, .int .i64 s] 24)) 27 #[.slice B m d, .bool t])
  simp only [World.size_alloc] at hb1
  replace hA := ((hA.alloc (.cells #[.slice A n c, .int .i64 s] 24)).alloc (.cells #[.slice B m d, .bool t] 27))
  replace hB := ((hB.alloc (.cells #[.slice A n c, .int .i64 s] 24)).alloc (.cells #[.slice B m d, .bool t] 27))
  obtain ⟨hb0_a, hb0_b, -, -⟩ := hb0.two
  have hb0_l := hb0.lt
  obtain ⟨hb1_a, hb1_b, -, -⟩ := hb1.two
  have hb1_l := hb1.lt
  go_enter Try.func3, Try.ntmps3
  go_wp2_with fail
  refine (szParty_any A n c s (1048576) _ (by omega) (by omega) (by omega)).mono ?_
  rintro e wz0 ⟨rfl, hb⟩
  rw [if_pos (by omega)]
  have ht := below_then (below2 w _ _) hb (by simp; omega)
  go_wp2
  go_ret
  exact ⟨rfl, ht⟩

set_option maxHeartbeats 800000 in
theorem lawTripsOf_big1 (A : Option Addr) (n c : Nat) (xs : List Int) (s : Int) (B : Option Addr) (m d : Nat) (bs : List Bool) (t : Bool) (w : World) (hA : Holds w A (nums xs)) (hx : xs.length = n) (hn : n ≤ 9223372036854775807) (hB : Holds w B (bits bs)) (hy : bs.length = m) (hm : m ≤ 9223372036854775807) (g0 : 0 ≤ 1048576 - (n : Int)) (hbig : 1048576 - (n : Int) - (m : Int) < 0) :
    Calls Try.prog 3 #[.agg #[.slice A n c, .int .i64 s], .agg #[.slice B m d, .bool t]] w fun e w' => e = .returned (.bool true) ∧ Below w.heap.size w w' := by
  have HX := Lib.hid hx
  have HY := Lib.hid hy
  clear hx hy
  have hused := And.intro True.intro (And.intro hn (And.intro True.intro (And.intro hm hm)))
  clear hused
  have hb0 := ((Whole.fresh w 24 #[.slice A n c, .int .i64 s]).alloc (.cells #[.slice B m d, .bool t] 27))
  have hb1 := (Whole.fresh (w.alloc (.cells #[.slice A n c, .int .i64 s] 24)) 27 #[.slice B m d, .bool t])
  simp only [World.size_alloc] at hb1
  replace hA := ((hA.alloc (.cells #[.slice A n c, .int .i64 s] 24)).alloc (.cells #[.slice B m d, .bool t] 27))
  replace hB := ((hB.alloc (.cells #[.slice A n c, .int .i64 s] 24)).alloc (.cells #[.slice B m d, .bool t] 27))
  obtain ⟨hb0_a, hb0_b, -, -⟩ := hb0.two
  have hb0_l := hb0.lt
  obtain ⟨hb1_a, hb1_b, -, -⟩ := hb1.two
  have hb1_l := hb1.lt
  go_enter Try.func3, Try.ntmps3
  go_wp2_with fail
  refine (szParty_any A n c s (1048576) _ (by omega) (by omega) (by omega)).mono ?_
  rintro e wz0 ⟨rfl, hb⟩
  rw [if_neg (by omega)]
  have ht := below_then (below2 w _ _) hb (by simp; omega)
  replace hb0 := hb0.below hb
  replace hb1 := hb1.below hb
  replace hA := hA.below hb
  replace hB := hB.below hb
  clear hb
  clear hb0_a hb0_b hb0_l hb1_a hb1_b hb1_l
  obtain ⟨hb0_a, hb0_b, -, -⟩ := hb0.two
  have hb0_l := hb0.lt
  obtain ⟨hb1_a, hb1_b, -, -⟩ := hb1.two
  have hb1_l := hb1.lt
  go_wp2_with fail
  refine (szState_any B m d t (1048576 - (n : Int)) _ (by omega) (by omega) (by omega)).mono ?_
  rintro e wz1 ⟨rfl, hb⟩
  rw [if_pos (by omega)]
  replace ht := below_then ht hb ht.size
  go_wp2
  go_ret
  exact ⟨rfl, ht⟩

set_option maxHeartbeats 6400000 in
set_option maxRecDepth 100000 in
theorem lawTripsOf_small (A : Option Addr) (n c : Nat) (xs : List Int) (s : Int) (B : Option Addr) (m d : Nat) (bs : List Bool) (t : Bool) (w : World) (hA : Holds w A (nums xs)) (hx : xs.length = n) (hn : n ≤ 9223372036854775807) (hB : Holds w B (bits bs)) (hy : bs.length = m) (hm : m ≤ 9223372036854775807) (g0 : 0 ≤ 1048576 - (n : Int)) (g1 : 0 ≤ 1048576 - (n : Int) - (m : Int)) :
    Calls Try.prog 3 #[.agg #[.slice A n c, .int .i64 s], .agg #[.slice B m d, .bool t]] w fun e w' => e = .returned (.bool true) ∧ Below w.heap.size w w' := by
  have HX := Lib.hid hx
  have HY := Lib.hid hy
  clear hx hy
  have hA0 := hA
  have hB0 := hB
  have hb0 := ((Whole.fresh w 24 #[.slice A n c, .int .i64 s]).alloc (.cells #[.slice B m d, .bool t] 27))
  have hb1 := (Whole.fresh (w.alloc (.cells #[.slice A n c, .int .i64 s] 24)) 27 #[.slice B m d, .bool t])
  simp only [World.size_alloc] at hb1
  replace hA := ((hA.alloc (.cells #[.slice A n c, .int .i64 s] 24)).alloc (.cells #[.slice B m d, .bool t] 27))
  replace hB := ((hB.alloc (.cells #[.slice A n c, .int .i64 s] 24)).alloc (.cells #[.slice B m d, .bool t] 27))
  obtain ⟨hb0_a, hb0_b, -, -⟩ := hb0.two
  have hb0_l := hb0.lt
  obtain ⟨hb1_a, hb1_b, -, -⟩ := hb1.two
  have hb1_l := hb1.lt
  go_enter Try.func3, Try.ntmps3
  go_wp2_with fail
  refine (szParty_any A n c s (1048576) _ (by omega) (by omega) (by omega)).mono ?_
  rintro e wz0 ⟨rfl, hb⟩
  rw [if_neg (by omega)]
  have ht := below_then (below2 w _ _) hb (by simp; omega)
  replace hb0 := hb0.below hb
  replace hb1 := hb1.below hb
  replace hA := hA.below hb
  replace hB := hB.below hb
  clear hb
  clear hb0_a hb0_b hb0_l hb1_a hb1_b hb1_l
  obtain ⟨hb0_a, hb0_b, -, -⟩ := hb0.two
  have hb0_l := hb0.lt
  obtain ⟨hb1_a, hb1_b, -, -⟩ := hb1.two
  have hb1_l := hb1.lt
  go_wp2_with fail
  refine (szState_any B m d t (1048576 - (n : Int)) _ (by omega) (by omega) (by omega)).mono ?_
  rintro e wz1 ⟨rfl, hb⟩
  rw [if_neg (by omega)]
  replace ht := below_then ht hb ht.size
  replace hb0 := hb0.below hb
  replace hb1 := hb1.below hb
  replace hA := hA.below hb
  replace hB := hB.below hb
  clear hb
  clear hb0_a hb0_b hb0_l hb1_a hb1_b hb1_l
  obtain ⟨hb0_a, hb0_b, -, -⟩ := hb0.two
  have hb0_l := hb0.lt
  obtain ⟨hb1_a, hb1_b, -, -⟩ := hb1.two
  have hb1_l := hb1.lt
  clear hb0_a hb0_b hb0_l hb1_a hb1_b hb1_l
  obtain ⟨hb0_a, hb0_b, -, -⟩ := hb0.two
  obtain ⟨hb1_a, hb1_b, -, -⟩ := hb1.two
  clear hA
  clear hB
  -- the model
  have hlen : (tripsLs xs n s bs t).length ≤ 1048576 ∧ ((tripsLs xs n s bs t).map List.length).sum ≤ 1048576 := tripsLs_le HX.out
  have hbz0 := hb0.lt
  have hbz1 := hb1.lt
  have hz0 := ht.size
  go_wp2_with fail
  go_region_held3 (fun w' => (w'.cell? ⟨w.heap.size, 0, none⟩ = some (.slice A n c) ∧ w'.cell? ⟨w.heap.size, 1, none⟩ = some (.int .i64 s)) ∧ (w'.cell? ⟨w.heap.size + 1, 0, none⟩ = some (.slice B m d) ∧ w'.cell? ⟨w.heap.size + 1, 1, none⟩ = some (.bool t))) (go_keep)
    (first | (go_at_call 18; refine (toParty_own A n c xs s _ (by exact (hA0.below ht).drew) HX.out (by omega)).mono ?_; rintro e wp0 ⟨gp0, rfl, hgp0, hwp0, hbp0⟩; obtain ⟨k00, j00, -, -⟩ := ((hb0.drew.below hbp0)).two; obtain ⟨k01, j01, -, -⟩ := ((hb1.drew.below hbp0)).two) | (go_at_call 19; refine (toState_own B m d bs t _ (by exact ((hB0.below ht).drew.below hbp0)) HY.out (by omega)).mono ?_; rintro e wp1 ⟨gp1, rfl, hgp1, hwp1, hbp1⟩; obtain ⟨k10, j10, -, -⟩ := (((hb0.drew.below hbp0).below hbp1)).two; obtain ⟨k11, j11, -, -⟩ := (((hb1.drew.below hbp0).below hbp1)).two) | (go_at_call 17; refine (specTripsOf_any _ _ n _ m _ xs bs s t _ (hwp0.below hbp1).holds hwp1.holds HX.out HY.out (by omega) (by omega)).mono ?_; rintro e wps ⟨A0, n0, q0, rs0, rfl, he0, hl0, hF0, hbps⟩; obtain ⟨ks0, js0, -, -⟩ := ((((hb0.drew.below hbp0).below hbp1).below hbps)).two; obtain ⟨ks1, js1, -, -⟩ := ((((hb1.drew.below hbp0).below hbp1).below hbps)).two))
  have hz1 : wz1.heap.size ≤ wp0.heap.size := by have := hbp0.size; simpa using this
  have hz2 : wp0.heap.size ≤ wp1.heap.size := by have := hbp1.size; simpa using this
  have hz3 : wp1.heap.size ≤ wps.heap.size := by have := hbps.size; simpa using this
  replace ht := (below_then (below_then (below_then ht.drew hbp0 ht.size) hbp1 (Nat.le_trans ht.size hbp0.size)) hbps (Nat.le_trans (Nat.le_trans ht.size hbp0.size) hbp1.size))
  replace hb0 := (((hb0.drew.below hbp0).below hbp1).below hbps)
  replace hb1 := (((hb1.drew.below hbp0).below hbp1).below hbps)
  clear hwp0 hgp0 hwp1 hgp1 hbp0 hbp1 hbps
  have HER0 := Lib.hid he0
  have HLR0 := Lib.hid hl0
  have hnr0 : n0 ≤ 1048576 := by have h1 := hl0; have h2 := congrArg List.length he0; rw [rowNums_len] at h2; have h3 := hlen.1; omega
  clear he0 hl0
  clear hb0_a hb0_b hb1_a hb1_b
  obtain ⟨hb0_a, hb0_b, -, -⟩ := hb0.two
  obtain ⟨hb1_a, hb1_b, -, -⟩ := hb1.two
  have hb0_l := hb0.lt
  have hb1_l := hb1.lt
  -- the program
  go_wp2_with fail
  refine (toParty_own A n c xs s _ ((hA0.below ht)) HX.out (by omega)).mono ?_
  rintro e wx0 ⟨gx0, rfl, hgx0, hwx0, hb⟩
  have hz4 : wps.heap.size ≤ wx0.heap.size := by have := hb.size; simpa using this
  replace ht := below_then ht hb ht.size
  replace hb0 := hb0.below hb
  replace hb1 := hb1.below hb
  replace hF0 := hF0.below hb
  have hX0 := Fresh.of_whole (lo := wps.heap.size) (hi := wx0.heap.size) hwx0 (by simpa using hgx0) hwx0.lt
  clear hb hgx0 hwx0
  have hx0 := Whole.fresh wx0 33 #[.slice (some ⟨gx0, 0, none⟩) n n, .int .i64 s]
  replace hb0 := hb0.alloc (.cells #[.slice (some ⟨gx0, 0, none⟩) n n, .int .i64 s] 33)
  replace hb1 := hb1.alloc (.cells #[.slice (some ⟨gx0, 0, none⟩) n n, .int .i64 s] 33)
  replace hF0 := hF0.alloc (.cells #[.slice (some ⟨gx0, 0, none⟩) n n, .int .i64 s] 33)
  replace hX0 := hX0.alloc (.cells #[.slice (some ⟨gx0, 0, none⟩) n n, .int .i64 s] 33)
  replace ht := ht.alloc ht.size (.cells #[.slice (some ⟨gx0, 0, none⟩) n n, .int .i64 s] 33)
  clear hb0_a hb0_b hb1_a hb1_b
  obtain ⟨hb0_a, hb0_b, -, -⟩ := hb0.two
  obtain ⟨hb1_a, hb1_b, -, -⟩ := hb1.two
  obtain ⟨hx0_a, hx0_b, -, -⟩ := hx0.two
  clear hb0_l
  have hb0_l := hb0.lt
  clear hb1_l
  have hb1_l := hb1.lt
  have hx0_l := hx0.lt
  go_wp2_with fail
  refine (toState_own B m d bs t _ ((hB0.below ht)) HY.out (by omega)).mono ?_
  rintro e wx1 ⟨gx1, rfl, hgx1, hwx1, hb⟩
  have hz5 : wx0.heap.size + 1 ≤ wx1.heap.size := by have := hb.size; simpa using this
  replace ht := below_then ht hb ht.size
  replace hb0 := hb0.below hb
  replace hb1 := hb1.below hb
  replace hF0 := hF0.below hb
  replace hX0 := hX0.below hb
  replace hx0 := hx0.below hb
  have hX1 := Fresh.of_whole (lo := wx0.heap.size + 1) (hi := wx1.heap.size) hwx1 (by simpa using hgx1) hwx1.lt
  clear hb hgx1 hwx1
  have hx1 := Whole.fresh wx1 35 #[.slice (some ⟨gx1, 0, none⟩) m m, .bool t]
  replace hb0 := hb0.alloc (.cells #[.slice (some ⟨gx1, 0, none⟩) m m, .bool t] 35)
  replace hb1 := hb1.alloc (.cells #[.slice (some ⟨gx1, 0, none⟩) m m, .bool t] 35)
  replace hF0 := hF0.alloc (.cells #[.slice (some ⟨gx1, 0, none⟩) m m, .bool t] 35)
  replace hX0 := hX0.alloc (.cells #[.slice (some ⟨gx1, 0, none⟩) m m, .bool t] 35)
  replace hx0 := hx0.alloc (.cells #[.slice (some ⟨gx1, 0, none⟩) m m, .bool t] 35)
  replace hX1 := hX1.alloc (.cells #[.slice (some ⟨gx1, 0, none⟩) m m, .bool t] 35)
  replace ht := ht.alloc ht.size (.cells #[.slice (some ⟨gx1, 0, none⟩) m m, .bool t] 35)
  clear hb0_a hb0_b hb1_a hb1_b hx0_a hx0_b
  obtain ⟨hb0_a, hb0_b, -, -⟩ := hb0.two
  obtain ⟨hb1_a, hb1_b, -, -⟩ := hb1.two
  obtain ⟨hx0_a, hx0_b, -, -⟩ := hx0.two
  obtain ⟨hx1_a, hx1_b, -, -⟩ := hx1.two
  clear hb0_l
  have hb0_l := hb0.lt
  clear hb1_l
  have hb1_l := hb1.lt
  clear hx0_l
  have hx0_l := hx0.lt
  have hx1_l := hx1.lt
  go_wp2_with fail
  refine (implTripsOf_any _ _ n _ m _ xs bs s t _ hX0.holds hX1.holds HX.out HY.out (by omega) (by omega)).mono ?_
  rintro e wi ⟨A1, n1, q1, rs1, rfl, he1, hl1, hF1, hb⟩
  have HER1 := Lib.hid he1
  have HLR1 := Lib.hid hl1
  have hnr1 : n1 ≤ 1048576 := by have h1 := hl1; have h2 := congrArg List.length he1; rw [rowNums_len] at h2; have h3 := hlen.1; omega
  clear he1 hl1
  have hz6 : wx1.heap.size + 1 ≤ wi.heap.size := by have := hb.size; simpa using this
  replace hF1 := hF1.more (lo' := wx1.heap.size + 1) (hi' := wi.heap.size) (by simp) (Nat.le_refl _)
  replace ht := below_then ht hb ht.size
  replace hb0 := hb0.below hb
  replace hb1 := hb1.below hb
  replace hF0 := hF0.below hb
  replace hX0 := hX0.below hb
  replace hx0 := hx0.below hb
  replace hX1 := hX1.below hb
  replace hx1 := hx1.below hb
  clear hb
  clear hb0_a hb0_b hb1_a hb1_b hx0_a hx0_b hx1_a hx1_b
  obtain ⟨hb0_a, hb0_b, -, -⟩ := hb0.two
  obtain ⟨hb1_a, hb1_b, -, -⟩ := hb1.two
  obtain ⟨hx0_a, hx0_b, -, -⟩ := hx0.two
  obtain ⟨hx1_a, hx1_b, -, -⟩ := hx1.two
  clear hb0_l
  have hb0_l := hb0.lt
  clear hb1_l
  have hb1_l := hb1.lt
  clear hx0_l
  have hx0_l := hx0.lt
  clear hx1_l
  have hx1_l := hx1.lt
  go_wp2_with fail
  refine (eqIntSS_yes A1 A0 n1 n0 q1 q0 rs1 rs0 _ hF1.grid hF0.grid (by rw [HER1.out, HER0.out]) HLR1.out HLR0.out (by omega)).mono ?_
  rintro e we0 ⟨rfl, hb⟩
  replace ht := below_then ht hb ht.size
  replace hb0 := hb0.below hb
  replace hb1 := hb1.below hb
  replace hF0 := hF0.below hb
  replace hX0 := hX0.below hb
  replace hx0 := hx0.below hb
  replace hX1 := hX1.below hb
  replace hx1 := hx1.below hb
  replace hF1 := hF1.below hb
  clear hb
  clear hb0_a hb0_b hb1_a hb1_b hx0_a hx0_b hx1_a hx1_b
  obtain ⟨hb0_a, hb0_b, -, -⟩ := hb0.two
  obtain ⟨hb1_a, hb1_b, -, -⟩ := hb1.two
  obtain ⟨hx0_a, hx0_b, -, -⟩ := hx0.two
  obtain ⟨hx1_a, hx1_b, -, -⟩ := hx1.two
  go_wp2_with fail
  clear hb0_a hb0_b hb1_a hb1_b hx0_a hx0_b hx1_a hx1_b
  obtain ⟨hx0_a, hx0_b, -, -⟩ := hx0.two
  obtain ⟨hb0_a, hb0_b, -, -⟩ := hb0.two
  go_region_held3 (fun w' => (w'.cell? ⟨wx0.heap.size, 0, none⟩ = some (.slice (some ⟨gx0, 0, none⟩) n n) ∧ w'.cell? ⟨wx0.heap.size, 1, none⟩ = some (.int .i64 s)) ∧ (w'.cell? ⟨w.heap.size, 0, none⟩ = some (.slice A n c) ∧ w'.cell? ⟨w.heap.size, 1, none⟩ = some (.int .i64 s))) (go_keep)
    (first | (go_at_call 18; refine (toParty_own A n c xs s _ (by exact (hA0.below ht).drew) HX.out (by omega)).mono ?_; rintro e wy0 ⟨gy0, rfl, hgy0, hwy0, hby⟩; obtain ⟨k0, k1, -, -⟩ := (hx0.drew.below hby).two; obtain ⟨k2, k3, -, -⟩ := (hb0.drew.below hby).two) | (go_at_call 22; refine (eqParty_yes _ _ n _ _ xs s _ (hX0.drew.below hby).holds hwy0.holds HX.out (by omega)).mono ?_; rintro e wq0 ⟨rfl, hbq⟩; obtain ⟨l0, l1, -, -⟩ := ((hx0.drew.below hby).below hbq).two; obtain ⟨l2, l3, -, -⟩ := ((hb0.drew.below hby).below hbq).two))
  replace ht := below_then (below_then ht.drew hby ht.size) hbq (Nat.le_trans ht.size hby.size)
  replace hb0 := (hb0.drew.below hby).below hbq
  replace hb1 := (hb1.drew.below hby).below hbq
  replace hF0 := (hF0.drew.below hby).below hbq
  replace hX0 := (hX0.drew.below hby).below hbq
  replace hx0 := (hx0.drew.below hby).below hbq
  replace hX1 := (hX1.drew.below hby).below hbq
  replace hx1 := (hx1.drew.below hby).below hbq
  replace hF1 := (hF1.drew.below hby).below hbq
  clear hby hbq hwy0 hgy0
  clear hx0_a hx0_b hb0_a hb0_b
  obtain ⟨hb0_a, hb0_b, -, -⟩ := hb0.two
  obtain ⟨hb1_a, hb1_b, -, -⟩ := hb1.two
  obtain ⟨hx0_a, hx0_b, -, -⟩ := hx0.two
  obtain ⟨hx1_a, hx1_b, -, -⟩ := hx1.two
  go_wp2_with fail
  clear hb0_a hb0_b hb1_a hb1_b hx0_a hx0_b hx1_a hx1_b
  obtain ⟨hx1_a, hx1_b, -, -⟩ := hx1.two
  obtain ⟨hb1_a, hb1_b, -, -⟩ := hb1.two
  go_region_held3 (fun w' => (w'.cell? ⟨wx1.heap.size, 0, none⟩ = some (.slice (some ⟨gx1, 0, none⟩) m m) ∧ w'.cell? ⟨wx1.heap.size, 1, none⟩ = some (.bool t)) ∧ (w'.cell? ⟨w.heap.size + 1, 0, none⟩ = some (.slice B m d) ∧ w'.cell? ⟨w.heap.size + 1, 1, none⟩ = some (.bool t))) (go_keep)
    (first | (go_at_call 19; refine (toState_own B m d bs t _ (by exact (hB0.below ht).drew) HY.out (by omega)).mono ?_; rintro e wy1 ⟨gy1, rfl, hgy1, hwy1, hby⟩; obtain ⟨k0, k1, -, -⟩ := (hx1.drew.below hby).two; obtain ⟨k2, k3, -, -⟩ := (hb1.drew.below hby).two) | (go_at_call 23; refine (eqState_yes _ _ m _ _ bs t _ (hX1.drew.below hby).holds hwy1.holds HY.out (by omega)).mono ?_; rintro e wq1 ⟨rfl, hbq⟩; obtain ⟨l0, l1, -, -⟩ := ((hx1.drew.below hby).below hbq).two; obtain ⟨l2, l3, -, -⟩ := ((hb1.drew.below hby).below hbq).two))
  replace ht := below_then (below_then ht.drew hby ht.size) hbq (Nat.le_trans ht.size hby.size)
  replace hb0 := (hb0.drew.below hby).below hbq
  replace hb1 := (hb1.drew.below hby).below hbq
  replace hF0 := (hF0.drew.below hby).below hbq
  replace hX0 := (hX0.drew.below hby).below hbq
  replace hx0 := (hx0.drew.below hby).below hbq
  replace hX1 := (hX1.drew.below hby).below hbq
  replace hx1 := (hx1.drew.below hby).below hbq
  replace hF1 := (hF1.drew.below hby).below hbq
  clear hby hbq hwy1 hgy1
  clear hx1_a hx1_b hb1_a hb1_b
  obtain ⟨hb0_a, hb0_b, -, -⟩ := hb0.two
  obtain ⟨hb1_a, hb1_b, -, -⟩ := hb1.two
  obtain ⟨hx0_a, hx0_b, -, -⟩ := hx0.two
  obtain ⟨hx1_a, hx1_b, -, -⟩ := hx1.two
  -- marks
  go_wp2_with fail
  refine (markParty_any (some ⟨gx0, 0, none⟩) n n _ _ _ s (1) _ hX0 (by rw [nums_len]; exact HX.out) (by omega) (by omega) (by omega)).mono ?_
  rintro e wm0 ⟨rfl, hs, -⟩
  have hsz := ht.size
  replace ht := hs.below ht (by omega) hsz
  replace hb0 := hs.whole hb0 (by omega)
  replace hb1 := hs.whole hb1 (by omega)
  replace hF0 := hs.freeGrid hF0 (by omega)
  replace hX1 := hs.fresh hX1 (by omega)
  replace hx1 := hs.whole hx1 (by omega)
  replace hF1 := hs.freeGrid hF1 (by omega)
  clear hs hsz hX0 hx0 hx0_a hx0_b
  clear hx0_l
  clear hb0_a hb0_b hb1_a hb1_b hx1_a hx1_b
  obtain ⟨hb0_a, hb0_b, -, -⟩ := hb0.two
  obtain ⟨hb1_a, hb1_b, -, -⟩ := hb1.two
  obtain ⟨hx1_a, hx1_b, -, -⟩ := hx1.two
  have hk0 : (0 : Int) ≤ 1 + (n : Int) := by omega
  go_wp2_with fail
  refine (markState_any (some ⟨gx1, 0, none⟩) m m _ _ _ t (1 + (n : Int)) _ hX1 (by rw [bits_len]; exact HY.out) (by omega) (by omega) (by omega)).mono ?_
  rintro e wm1 ⟨rfl, hs, -⟩
  have hsz := ht.size
  replace ht := hs.below ht (by omega) hsz
  replace hb0 := hs.whole hb0 (by omega)
  replace hb1 := hs.whole hb1 (by omega)
  replace hF0 := hs.freeGrid hF0 (by omega)
  replace hF1 := hs.freeGrid hF1 (by omega)
  clear hs hsz hX1 hx1 hx1_a hx1_b
  clear hx1_l
  clear hb0_a hb0_b hb1_a hb1_b
  obtain ⟨hb0_a, hb0_b, -, -⟩ := hb0.two
  obtain ⟨hb1_a, hb1_b, -, -⟩ := hb1.two
  have hk1 : (0 : Int) ≤ 1 + (n : Int) + (m : Int) := by omega
  go_wp2_with fail
  refine (eqIntSS_yes A1 A0 n1 n0 q1 q0 rs1 rs0 _ hF1.grid hF0.grid (by rw [HER1.out, HER0.out]) HLR1.out HLR0.out (by omega)).mono ?_
  rintro e we1 ⟨rfl, hb⟩
  replace ht := below_then ht hb ht.size
  replace hb0 := hb0.below hb
  replace hb1 := hb1.below hb
  replace hF0 := hF0.below hb
  replace hF1 := hF1.below hb
  clear hb
  clear hb0_a hb0_b hb1_a hb1_b
  obtain ⟨hb0_a, hb0_b, -, -⟩ := hb0.two
  obtain ⟨hb1_a, hb1_b, -, -⟩ := hb1.two
  go_wp2_with fail
  have hprt : part rs1 rs1.length ≤ 1048576 := by have h1 := part_lens hF1.grid; have h2 := hlen.2; rw [HER1.out] at h1; omega
  refine (markIntSS_any A1 n1 q1 _ _ rs1 1 _ hF1 HLR1.out (by omega) (by omega) hnr1 hprt).mono ?_
  rintro e wn ⟨rfl, hs, hF2⟩
  have hsz := ht.size
  replace ht := hs.below ht (by omega) hsz
  replace hb0 := hs.whole hb0 (by omega)
  replace hb1 := hs.whole hb1 (by omega)
  replace hF0 := hs.freeGrid hF0 (by omega)
  clear hs hF1 hsz
  clear hb0_a hb0_b hb1_a hb1_b
  obtain ⟨hb0_a, hb0_b, -, -⟩ := hb0.two
  obtain ⟨hb1_a, hb1_b, -, -⟩ := hb1.two
  go_wp2_with fail
  refine (heldIntSS_any A1 n1 q1 rs1 1 _ hF2.grid HLR1.out (by omega) (by omega) hnr1 hprt).mono ?_
  rintro e wh0 ⟨rfl, hb⟩
  replace ht := below_then ht hb ht.size
  replace hb0 := hb0.below hb
  replace hb1 := hb1.below hb
  replace hF0 := hF0.below hb
  replace hF2 := hF2.below hb
  clear hb
  have hm0 : (0 : Int) ≤ 1 + ((part rs1 rs1.length : Nat) : Int) := by omega
  clear hb0_a hb0_b hb1_a hb1_b
  obtain ⟨hb0_a, hb0_b, -, -⟩ := hb0.two
  obtain ⟨hb1_a, hb1_b, -, -⟩ := hb1.two
  -- once more
  go_wp2_with fail
  go_region_held3 (fun w' => (w'.cell? ⟨w.heap.size, 0, none⟩ = some (.slice A n c) ∧ w'.cell? ⟨w.heap.size, 1, none⟩ = some (.int .i64 s)) ∧ (w'.cell? ⟨w.heap.size + 1, 0, none⟩ = some (.slice B m d) ∧ w'.cell? ⟨w.heap.size + 1, 1, none⟩ = some (.bool t))) (go_keep)
    (first | (go_at_call 18; refine (toParty_own A n c xs s _ (by exact (hA0.below ht).drew) HX.out (by omega)).mono ?_; rintro e wr0 ⟨gr0, rfl, hgr0, hwr0, hbr0⟩; obtain ⟨k00, j00, -, -⟩ := ((hb0.drew.below hbr0)).two; obtain ⟨k01, j01, -, -⟩ := ((hb1.drew.below hbr0)).two) | (go_at_call 19; refine (toState_own B m d bs t _ (by exact ((hB0.below ht).drew.below hbr0)) HY.out (by omega)).mono ?_; rintro e wr1 ⟨gr1, rfl, hgr1, hwr1, hbr1⟩; obtain ⟨k10, j10, -, -⟩ := (((hb0.drew.below hbr0).below hbr1)).two; obtain ⟨k11, j11, -, -⟩ := (((hb1.drew.below hbr0).below hbr1)).two) | (go_at_call 20; refine (implTripsOf_any _ _ n _ m _ xs bs s t _ (hwr0.below hbr1).holds hwr1.holds HX.out HY.out (by omega) (by omega)).mono ?_; rintro e wrs ⟨A2, n2, q2, rs2, rfl, he2, hl2, hF3, hbrs⟩; obtain ⟨ks0, js0, -, -⟩ := ((((hb0.drew.below hbr0).below hbr1).below hbrs)).two; obtain ⟨ks1, js1, -, -⟩ := ((((hb1.drew.below hbr0).below hbr1).below hbrs)).two))
  have hz7 : wh0.heap.size ≤ wr0.heap.size := by have := hbr0.size; simpa using this
  have hz8 : wr0.heap.size ≤ wr1.heap.size := by have := hbr1.size; simpa using this
  have hz9 : wr1.heap.size ≤ wrs.heap.size := by have := hbrs.size; simpa using this
  replace ht := (below_then (below_then (below_then ht.drew hbr0 ht.size) hbr1 (Nat.le_trans ht.size hbr0.size)) hbrs (Nat.le_trans (Nat.le_trans ht.size hbr0.size) hbr1.size))
  replace hb0 := (((hb0.drew.below hbr0).below hbr1).below hbrs)
  replace hb1 := (((hb1.drew.below hbr0).below hbr1).below hbrs)
  replace hF0 := (((hF0.drew.below hbr0).below hbr1).below hbrs)
  replace hF2 := (((hF2.drew.below hbr0).below hbr1).below hbrs)
  clear hwr0 hgr0 hwr1 hgr1 hbr0 hbr1 hbrs
  have HER2 := Lib.hid he2
  have HLR2 := Lib.hid hl2
  have hnr2 : n2 ≤ 1048576 := by have h1 := hl2; have h2 := congrArg List.length he2; rw [rowNums_len] at h2; have h3 := hlen.1; omega
  clear he2 hl2
  clear hb0_a hb0_b hb1_a hb1_b
  obtain ⟨hb0_a, hb0_b, -, -⟩ := hb0.two
  obtain ⟨hb1_a, hb1_b, -, -⟩ := hb1.two
  go_wp2_with fail
  refine (eqIntSS_yes A2 A0 n2 n0 q2 q0 rs2 rs0 _ hF3.grid hF0.grid (by rw [HER2.out, HER0.out]) HLR2.out HLR0.out (by omega)).mono ?_
  rintro e we2 ⟨rfl, hb⟩
  replace ht := below_then ht hb ht.size
  replace hb0 := hb0.below hb
  replace hb1 := hb1.below hb
  replace hF0 := hF0.below hb
  replace hF2 := hF2.below hb
  replace hF3 := hF3.below hb
  clear hb
  clear hb0_a hb0_b hb1_a hb1_b
  obtain ⟨hb0_a, hb0_b, -, -⟩ := hb0.two
  obtain ⟨hb1_a, hb1_b, -, -⟩ := hb1.two
  go_wp2_with fail
  refine (heldIntSS_any A1 n1 q1 rs1 1 _ hF2.grid HLR1.out (by omega) (by omega) hnr1 hprt).mono ?_
  rintro e wh1 ⟨rfl, hb⟩
  replace ht := below_then ht hb ht.size
  replace hb0 := hb0.below hb
  replace hb1 := hb1.below hb
  replace hF0 := hF0.below hb
  replace hF2 := hF2.below hb
  replace hF3 := hF3.below hb
  clear hb
  go_wp2
  go_ret
  exact ⟨rfl, ht⟩

theorem lawTripsOf_all (A : Option Addr) (n c : Nat) (xs : List Int) (s : Int) (B : Option Addr) (m d : Nat) (bs : List Bool) (t : Bool) (w : World) (hA : Holds w A (nums xs)) (hx : xs.length = n) (hn : n ≤ 9223372036854775807) (hB : Holds w B (bits bs)) (hy : bs.length = m) (hm : m ≤ 9223372036854775807) :
    Calls Try.prog 3 #[.agg #[.slice A n c, .int .i64 s], .agg #[.slice B m d, .bool t]] w fun e w' => e = .returned (.bool true) ∧ Below w.heap.size w w' := by
  rcases (inferInstance : Decidable (0 ≤ 1048576 - (n : Int))) with g0 | g0
  · exact lawTripsOf_big0 A n c xs s B m d bs t w hA hx hn hB hy hm  (by omega)
  rcases (inferInstance : Decidable (0 ≤ 1048576 - (n : Int) - (m : Int))) with g1 | g1
  · exact lawTripsOf_big1 A n c xs s B m d bs t w hA hx hn hB hy hm g0 (by omega)
  · exact lawTripsOf_small A n c xs s B m d bs t w hA hx hn hB hy hm g0 g1
end Go.Proofs.Ytifaadjbkbdbnaa
