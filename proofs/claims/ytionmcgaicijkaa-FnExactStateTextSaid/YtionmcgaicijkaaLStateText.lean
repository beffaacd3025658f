/-
  What is proved: the law FnExactStateText returns true at every argument, and leaves all that was there as it was. Conditions: the arguments are read as they lie.
-/
import Derived.Test.YtionmcgaicijkaaText
import Derived.Test.YtionmcgaicijkaaTripT
import Derived.Deep.RegionHeld3
import Derived.Deep.DeepCutAuto
namespace Go.Proofs.Ytionmcgaicijkaa
open Go.RowKit

set_option maxHeartbeats 800000 in
theorem lawStateText_big0 (A : Option Addr) (n c : Nat) (xs : List Int) (s : Int) (B : Option Addr) (m d : Nat) (bs : List Bool) (t : Bool) (w : World) (hA : Holds w A (nums xs)) (hx : xs.length = n) (hn : n ≤ 9223372036854775807) (hB : Holds w B (bits bs)) (hy : bs.length = m) (hm : m ≤ 9223372036854775807)  (hbig : 1048576 - (n : Int) < 0) :
    Calls Try.prog 13 #[.agg #[.slice A n c, .int .i64 s], .agg #[.slice B m d, .bool t]] w fun e w' => e = .returned (.bool true) ∧ Below w.heap.size w w' := by
  have HX := Lib.hid hx
  have HY := Lib.hid hy
  clear hx hy
  have hused := And.intro True.intro (And.intro hn (And.intro True.intro (And.intro hm hm)))
  clear hused
  have hb0 := ((Whole.fresh w 24 #[.slice A n c, .int .i64 s]).alloc (.cells #[.slice B m d, .bool t] 27))
  have hb1 := (Whole.fresh (w.alloc (.cells #[.slice A n c, .int .i64 s] 24)) 27 #[.slice B m d, .bool t])
  simp only [World.size_alloc] at hb1
  replace hA := ((hA.alloc (.cells #[.slice A n c, .int .i64 s] 24)).alloc (.cells #[.slice B m d, .bool t] 27))
  replace hB := ((hB.alloc (.cells #[.slice A n c, .int .i64 s] 24)).alloc (.cells #[.slice B m d, .bool t] 27))
  obtain ⟨hb0_a, hb0_b, -, -⟩ := hb0.two
  have hb0_l := hb0.lt
  obtain ⟨hb1_a, hb1_b, -, -⟩ := hb1.two
  have hb1_l := hb1.lt
  go_enter Try.func13, Try.ntmps13
  go_wp2_with fail
  refine (szParty_any A n c s (1048576) _ (by omega) (by omega) (by omega)).mono ?_
  rintro e wz0 ⟨rfl, hb⟩
  rw [if_pos (by omega)]
  have ht := below_then (below2 w _ _) hb (by simp; omega)
  go_wp2
  go_ret
  exact ⟨rfl, ht⟩

set_option maxHeartbeats 800000 in
theorem lawStateText_big1 (A : Option Addr) (n c : Nat) (xs : List Int) (s : Int) (B : Option Addr) (m d : Nat) (bs : List Bool) (t : Bool) (w : World) (hA : Holds w A (nums xs)) (hx : xs.length = n) (hn : n ≤ 9223372036854775807) (hB : Holds w B (bits bs)) (hy : bs.length = m) (hm : m ≤ 9223372036854775807) (g0 : 0 ≤ 1048576 - (n : Int)) (hbig : 1048576 - (n : Int) - (m : Int) < 0) :
    Calls Try.prog 13 #[.agg #[.slice A n c, .int .i64 s], .agg #[.slice B m d, .bool t]] w fun e w' => e = .returned (.bool true) ∧ Below w.heap.size w w' := by
  have HX := Lib.hid hx
  have HY := Lib.hid hy
  clear hx hy
  have hused := And.intro True.intro (And.intro hn (And.intro True.intro (And.intro hm hm)))
  clear hused
  have hb0 := ((Whole.fresh w 24 #[.slice A n c, .int .i64 s]).alloc (.cells #[.slice B m d, .bool t] 27))
  have hb1 := (Whole.fresh (w.alloc (.cells #[.slice A n c, .int .i64 s] 24)) 27 #[.slice B m d, .bool t])
  simp only [World.size_alloc] at hb1
  replace hA := ((hA.alloc (.cells #[.slice A n c, .int .i64 s] 24)).alloc (.cells #[.slice B m d, .bool t] 27))
  replace hB := ((hB.alloc (.cells #[.slice A n c, .int .i64 s] 24)).alloc (.cells #[.slice B m d, .bool t] 27))
  obtain ⟨hb0_a, hb0_b, -, -⟩ := hb0.two
  have hb0_l := hb0.lt
  obtain ⟨hb1_a, hb1_b, -, -⟩ := hb1.two
  have hb1_l := hb1.lt
  go_enter Try.func13, Try.ntmps13
  go_wp2_with fail
  refine (szParty_any A n c s (1048576) _ (by omega) (by omega) (by omega)).mono ?_
  rintro e wz0 ⟨rfl, hb⟩
  rw [if_neg (by omega)]
  have ht := below_then (below2 w _ _) hb (by simp; omega)
  replace hb0 := hb0.below hb
  replace hb1 := hb1.below hb
  replace hA := hA.below hb
  replace hB := hB.below hb
  clear hb
  clear hb0_a hb0_b hb0_l hb1_a hb1_b hb1_l
  obtain ⟨hb0_a, hb0_b, -, -⟩ := hb0.two
  have hb0_l := hb0.lt
  obtain ⟨hb1_a, hb1_b, -, -⟩ := hb1.two
  have hb1_l := hb1.lt
  go_wp2_with fail
  refine (szState_any B m d t (1048576 - (n : Int)) _ (by omega) (by omega) (by omega)).mono ?_
  rintro e wz1 ⟨rfl, hb⟩
  rw [if_pos (by omega)]
  replace ht := below_then ht hb ht.size
  go_wp2
  go_ret
  exact ⟨rfl, ht⟩

set_option maxHeartbeats 6400000 in
set_option maxRecDepth 100000 in
theorem lawStateText_small (A : Option Addr) (n c : Nat) (xs : List Int) (s : Int) (B : Option Addr) (m d : Nat) (bs : List Bool) (t : Bool) (w : World) (hA : Holds w A (nums xs)) (hx : xs.length = n) (hn : n ≤ 9223372036854775807) (hB : Holds w B (bits bs)) (hy : bs.length = m) (hm : m ≤ 9223372036854775807) (g0 : 0 ≤ 1048576 - (n : Int)) (g1 : 0 ≤ 1048576 - (n : Int) - (m : Int)) :
    Calls Try.prog 13 #[.agg #[.slice A n c, .int .i64 s], .agg #[.slice B m d, .bool t]] w fun e w' => e = .returned (.bool true) ∧ Below w.heap.size w w' := by
  have HX := Lib.hid hx
  have HY := Lib.hid hy
  clear hx hy
  have hb0 := ((Whole.fresh w 24 #[.slice A n c, .int .i64 s]).alloc (.cells #[.slice B m d, .bool t] 27))
  have hb1 := (Whole.fresh (w.alloc (.cells #[.slice A n c, .int .i64 s] 24)) 27 #[.slice B m d, .bool t])
  simp only [World.size_alloc] at hb1
  replace hA := ((hA.alloc (.cells #[.slice A n c, .int .i64 s] 24)).alloc (.cells #[.slice B m d, .bool t] 27))
  replace hB := ((hB.alloc (.cells #[.slice A n c, .int .i64 s] 24)).alloc (.cells #[.slice B m d, .bool t] 27))
  obtain ⟨hb0_a, hb0_b, -, -⟩ := hb0.two
  have hb0_l := hb0.lt
  obtain ⟨hb1_a, hb1_b, -, -⟩ := hb1.two
  have hb1_l := hb1.lt
  go_enter Try.func13, Try.ntmps13
  go_wp2_with fail
  refine (szParty_any A n c s (1048576) _ (by omega) (by omega) (by omega)).mono ?_
  rintro e wz0 ⟨rfl, hb⟩
  rw [if_neg (by omega)]
  have ht := below_then (below2 w _ _) hb (by simp; omega)
  replace hb0 := hb0.below hb
  replace hb1 := hb1.below hb
  replace hA := hA.below hb
  replace hB := hB.below hb
  clear hb
  clear hb0_a hb0_b hb0_l hb1_a hb1_b hb1_l
  obtain ⟨hb0_a, hb0_b, -, -⟩ := hb0.two
  have hb0_l := hb0.lt
  obtain ⟨hb1_a, hb1_b, -, -⟩ := hb1.two
  have hb1_l := hb1.lt
  go_wp2_with fail
  refine (szState_any B m d t (1048576 - (n : Int)) _ (by omega) (by omega) (by omega)).mono ?_
  rintro e wz1 ⟨rfl, hb⟩
  rw [if_neg (by omega)]
  replace ht := below_then ht hb ht.size
  replace hb0 := hb0.below hb
  replace hb1 := hb1.below hb
  replace hA := hA.below hb
  replace hB := hB.below hb
  clear hb
  clear hb0_a hb0_b hb0_l hb1_a hb1_b hb1_l
  obtain ⟨hb0_a, hb0_b, -, -⟩ := hb0.two
  have hb0_l := hb0.lt
  obtain ⟨hb1_a, hb1_b, -, -⟩ := hb1.two
  have hb1_l := hb1.lt
  -- the model
  go_wp2_with fail
  go_region_held3 (fun w' => (w'.cell? ⟨w.heap.size, 0, none⟩ = some (.slice A n c) ∧ w'.cell? ⟨w.heap.size, 1, none⟩ = some (.int .i64 s)) ∧ (w'.cell? ⟨w.heap.size + 1, 0, none⟩ = some (.slice B m d) ∧ w'.cell? ⟨w.heap.size + 1, 1, none⟩ = some (.bool t))) (go_keep)
    (first | (go_at_call 18; refine (toParty_own A n c xs s _ (by exact hA.drew) HX.out (by omega)).mono ?_; rintro e wp0 ⟨gp0, rfl, hgp0, hwp0, hbp0⟩; obtain ⟨k00, j00, -, -⟩ := ((hb0.drew.below hbp0)).two; obtain ⟨k01, j01, -, -⟩ := ((hb1.drew.below hbp0)).two) | (go_at_call 19; refine (toState_own B m d bs t _ (by exact (hB.drew.below hbp0)) HY.out (by omega)).mono ?_; rintro e wp1 ⟨gp1, rfl, hgp1, hwp1, hbp1⟩; obtain ⟨k10, j10, -, -⟩ := (((hb0.drew.below hbp0).below hbp1)).two; obtain ⟨k11, j11, -, -⟩ := (((hb1.drew.below hbp0).below hbp1)).two) | (go_at_call 54; refine (specStateText_any _ _ n _ m _ xs bs s t _ (hwp0.below hbp1).holds hwp1.holds HX.out HY.out (by omega) (by omega)).mono ?_; rintro e wps ⟨rfl, hbps⟩; obtain ⟨ks0, js0, -, -⟩ := ((((hb0.drew.below hbp0).below hbp1).below hbps)).two; obtain ⟨ks1, js1, -, -⟩ := ((((hb1.drew.below hbp0).below hbp1).below hbps)).two))
  replace ht := (below_then (below_then (below_then ht.drew hbp0 ht.size) hbp1 (Nat.le_trans ht.size hbp0.size)) hbps (Nat.le_trans (Nat.le_trans ht.size hbp0.size) hbp1.size))
  replace hb0 := (((hb0.drew.below hbp0).below hbp1).below hbps)
  replace hb1 := (((hb1.drew.below hbp0).below hbp1).below hbps)
  replace hA := (((hA.drew.below hbp0).below hbp1).below hbps)
  replace hB := (((hB.drew.below hbp0).below hbp1).below hbps)
  clear hwp0 hgp0 hwp1 hgp1 hbp0 hbp1 hbps
  clear hb0_a hb0_b hb0_l hb1_a hb1_b hb1_l
  obtain ⟨hb0_a, hb0_b, -, -⟩ := hb0.two
  have hb0_l := hb0.lt
  obtain ⟨hb1_a, hb1_b, -, -⟩ := hb1.two
  have hb1_l := hb1.lt
  -- the program
  go_wp2_with fail
  refine (toParty_own A n c xs s _ (hA) HX.out (by omega)).mono ?_
  rintro e wx0 ⟨gx0, rfl, hgx0, hwx0, hb⟩
  replace ht := below_then ht hb ht.size
  replace hb0 := hb0.below hb
  replace hb1 := hb1.below hb
  replace hA := hA.below hb
  replace hB := hB.below hb
  clear hb hgx0
  have hx0 := Whole.fresh wx0 33 #[.slice (some ⟨gx0, 0, none⟩) n n, .int .i64 s]
  replace ht := ht.alloc ht.size (.cells #[.slice (some ⟨gx0, 0, none⟩) n n, .int .i64 s] 33)
  replace hb0 := hb0.alloc (.cells #[.slice (some ⟨gx0, 0, none⟩) n n, .int .i64 s] 33)
  replace hb1 := hb1.alloc (.cells #[.slice (some ⟨gx0, 0, none⟩) n n, .int .i64 s] 33)
  replace hA := hA.alloc (.cells #[.slice (some ⟨gx0, 0, none⟩) n n, .int .i64 s] 33)
  replace hB := hB.alloc (.cells #[.slice (some ⟨gx0, 0, none⟩) n n, .int .i64 s] 33)
  replace hwx0 := hwx0.alloc (.cells #[.slice (some ⟨gx0, 0, none⟩) n n, .int .i64 s] 33)
  clear hb0_a hb0_b hb0_l hb1_a hb1_b hb1_l
  obtain ⟨hb0_a, hb0_b, -, -⟩ := hb0.two
  have hb0_l := hb0.lt
  obtain ⟨hb1_a, hb1_b, -, -⟩ := hb1.two
  have hb1_l := hb1.lt
  obtain ⟨hx0_a, hx0_b, -, -⟩ := hx0.two
  have hx0_l := hx0.lt
  go_wp2_with fail
  refine (toState_own B m d bs t _ (hB) HY.out (by omega)).mono ?_
  rintro e wx1 ⟨gx1, rfl, hgx1, hwx1, hb⟩
  replace ht := below_then ht hb ht.size
  replace hb0 := hb0.below hb
  replace hb1 := hb1.below hb
  replace hA := hA.below hb
  replace hB := hB.below hb
  replace hwx0 := hwx0.below hb
  replace hx0 := hx0.below hb
  clear hb hgx1
  have hx1 := Whole.fresh wx1 30 #[.slice (some ⟨gx1, 0, none⟩) m m, .bool t]
  replace ht := ht.alloc ht.size (.cells #[.slice (some ⟨gx1, 0, none⟩) m m, .bool t] 30)
  replace hb0 := hb0.alloc (.cells #[.slice (some ⟨gx1, 0, none⟩) m m, .bool t] 30)
  replace hb1 := hb1.alloc (.cells #[.slice (some ⟨gx1, 0, none⟩) m m, .bool t] 30)
  replace hA := hA.alloc (.cells #[.slice (some ⟨gx1, 0, none⟩) m m, .bool t] 30)
  replace hB := hB.alloc (.cells #[.slice (some ⟨gx1, 0, none⟩) m m, .bool t] 30)
  replace hwx0 := hwx0.alloc (.cells #[.slice (some ⟨gx1, 0, none⟩) m m, .bool t] 30)
  replace hx0 := hx0.alloc (.cells #[.slice (some ⟨gx1, 0, none⟩) m m, .bool t] 30)
  replace hwx1 := hwx1.alloc (.cells #[.slice (some ⟨gx1, 0, none⟩) m m, .bool t] 30)
  clear hb0_a hb0_b hb0_l hb1_a hb1_b hb1_l hx0_a hx0_b hx0_l
  obtain ⟨hb0_a, hb0_b, -, -⟩ := hb0.two
  have hb0_l := hb0.lt
  obtain ⟨hb1_a, hb1_b, -, -⟩ := hb1.two
  have hb1_l := hb1.lt
  obtain ⟨hx0_a, hx0_b, -, -⟩ := hx0.two
  have hx0_l := hx0.lt
  obtain ⟨hx1_a, hx1_b, -, -⟩ := hx1.two
  have hx1_l := hx1.lt
  go_wp2_with fail
  refine (implStateText_any _ _ n _ m _ xs bs s t _ hwx0.holds hwx1.holds HX.out HY.out (by omega) (by omega)).mono ?_
  rintro e wi ⟨rfl, hb⟩
  replace ht := below_then ht hb ht.size
  replace hb0 := hb0.below hb
  replace hb1 := hb1.below hb
  replace hA := hA.below hb
  replace hB := hB.below hb
  replace hwx0 := hwx0.below hb
  replace hx0 := hx0.below hb
  replace hwx1 := hwx1.below hb
  replace hx1 := hx1.below hb
  clear hb
  clear hb0_a hb0_b hb0_l hb1_a hb1_b hb1_l hx0_a hx0_b hx0_l hx1_a hx1_b hx1_l
  obtain ⟨hb0_a, hb0_b, -, -⟩ := hb0.two
  have hb0_l := hb0.lt
  obtain ⟨hb1_a, hb1_b, -, -⟩ := hb1.two
  have hb1_l := hb1.lt
  obtain ⟨hx0_a, hx0_b, -, -⟩ := hx0.two
  have hx0_l := hx0.lt
  obtain ⟨hx1_a, hx1_b, -, -⟩ := hx1.two
  have hx1_l := hx1.lt
  go_wp2_with fail
  clear hb0_a hb0_b hb0_l hb1_a hb1_b hb1_l hx0_a hx0_b hx0_l hx1_a hx1_b hx1_l
  obtain ⟨hx0_a, hx0_b, -, -⟩ := hx0.two
  have hx0_l := hx0.lt
  obtain ⟨hb0_a, hb0_b, -, -⟩ := hb0.two
  have hb0_l := hb0.lt
  go_region_held3 (fun w' => (w'.cell? ⟨wx0.heap.size, 0, none⟩ = some (.slice (some ⟨gx0, 0, none⟩) n n) ∧ w'.cell? ⟨wx0.heap.size, 1, none⟩ = some (.int .i64 s)) ∧ (w'.cell? ⟨w.heap.size, 0, none⟩ = some (.slice A n c) ∧ w'.cell? ⟨w.heap.size, 1, none⟩ = some (.int .i64 s))) (go_keep)
    (first | (go_at_call 18; refine (toParty_own A n c xs s _ (by exact hA.drew) HX.out (by omega)).mono ?_; rintro e wy0 ⟨gy0, rfl, hgy0, hwy0, hby⟩; obtain ⟨k0, k1, -, -⟩ := (hx0.drew.below hby).two; obtain ⟨k2, k3, -, -⟩ := (hb0.drew.below hby).two) | (go_at_call 23; refine (eqParty_yes _ _ n _ _ xs s _ (hwx0.drew.below hby).holds hwy0.holds HX.out (by omega)).mono ?_; rintro e wq0 ⟨rfl, hbq⟩; obtain ⟨l0, l1, -, -⟩ := ((hx0.drew.below hby).below hbq).two; obtain ⟨l2, l3, -, -⟩ := ((hb0.drew.below hby).below hbq).two))
  replace ht := below_then (below_then ht.drew hby ht.size) hbq (Nat.le_trans ht.size hby.size)
  replace hb1 := (hb1.drew.below hby).below hbq
  replace hB := (hB.drew.below hby).below hbq
  replace hwx1 := (hwx1.drew.below hby).below hbq
  replace hx1 := (hx1.drew.below hby).below hbq
  clear hby hbq hwy0 hgy0 hx0 hb0 hwx0 hA
  clear hx0_a hx0_b hx0_l hb0_a hb0_b hb0_l
  obtain ⟨hb1_a, hb1_b, -, -⟩ := hb1.two
  have hb1_l := hb1.lt
  obtain ⟨hx1_a, hx1_b, -, -⟩ := hx1.two
  have hx1_l := hx1.lt
  go_wp2_with fail
  clear hb1_a hb1_b hb1_l hx1_a hx1_b hx1_l
  obtain ⟨hx1_a, hx1_b, -, -⟩ := hx1.two
  have hx1_l := hx1.lt
  obtain ⟨hb1_a, hb1_b, -, -⟩ := hb1.two
  have hb1_l := hb1.lt
  go_region_held3 (fun w' => (w'.cell? ⟨wx1.heap.size, 0, none⟩ = some (.slice (some ⟨gx1, 0, none⟩) m m) ∧ w'.cell? ⟨wx1.heap.size, 1, none⟩ = some (.bool t)) ∧ (w'.cell? ⟨w.heap.size + 1, 0, none⟩ = some (.slice B m d) ∧ w'.cell? ⟨w.heap.size + 1, 1, none⟩ = some (.bool t))) (go_keep)
    (first | (go_at_call 19; refine (toState_own B m d bs t _ (by exact hB.drew) HY.out (by omega)).mono ?_; rintro e wy1 ⟨gy1, rfl, hgy1, hwy1, hby⟩; obtain ⟨k0, k1, -, -⟩ := (hx1.drew.below hby).two; obtain ⟨k2, k3, -, -⟩ := (hb1.drew.below hby).two) | (go_at_call 22; refine (eqState_yes _ _ m _ _ bs t _ (hwx1.drew.below hby).holds hwy1.holds HY.out (by omega)).mono ?_; rintro e wq1 ⟨rfl, hbq⟩; obtain ⟨l0, l1, -, -⟩ := ((hx1.drew.below hby).below hbq).two; obtain ⟨l2, l3, -, -⟩ := ((hb1.drew.below hby).below hbq).two))
  replace ht := below_then (below_then ht.drew hby ht.size) hbq (Nat.le_trans ht.size hby.size)
  clear hby hbq hwy1 hgy1 hx1 hb1 hwx1 hB
  clear hx1_a hx1_b hx1_l hb1_a hb1_b hb1_l
  go_wp2
  go_ret
  exact ⟨rfl, ht⟩

theorem lawStateText_all (A : Option Addr) (n c : Nat) (xs : List Int) (s : Int) (B : Option Addr) (m d : Nat) (bs : List Bool) (t : Bool) (w : World) (hA : Holds w A (nums xs)) (hx : xs.length = n) (hn : n ≤ 9223372036854775807) (hB : Holds w B (bits bs)) (hy : bs.length = m) (hm : m ≤ 9223372036854775807) :
    Calls Try.prog 13 #[.agg #[.slice A n c, .int .i64 s], .agg #[.slice B m d, .bool t]] w fun e w' => e = .returned (.bool true) ∧ Below w.heap.size w w' := by
  rcases (inferInstance : Decidable (0 ≤ 1048576 - (n : Int))) with g0 | g0
  · exact lawStateText_big0 A n c xs s B m d bs t w hA hx hn hB hy hm  (by omega)
  rcases (inferInstance : Decidable (0 ≤ 1048576 - (n : Int) - (m : Int))) with g1 | g1
  · exact lawStateText_big1 A n c xs s B m d bs t w hA hx hn hB hy hm g0 (by omega)
  · exact lawStateText_small A n c xs s B m d bs t w hA hx hn hB hy hm g0 g1
end Go.Proofs.Ytionmcgaicijkaa
