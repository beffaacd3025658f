/-
  What is proved: the law FnExactCrossBridge returns true at every argument, and leaves all that was there as it was. Conditions: the arguments are read as they lie.
-/
import Derived.Test.YtionmcgaicijkaaBridge
import Derived.Test.YtionmcgaicijkaaGrid3
import Derived.Test.YtionmcgaicijkaaTripT
import Derived.Test.YtionmcgaicijkaaMid
import Derived.Deep.RegionHeld3
import Derived.Deep.DeepCutAuto
namespace Go.Proofs.Ytionmcgaicijkaa
open Go.RowKit

set_option maxHeartbeats 800000 in
theorem lawCrossBridge_big0 (A : Option Addr) (n c : Nat) (xs : List Int) (s : Int) (B : Option Addr) (m d : Nat) (bs : List Bool) (t : Bool) (D : Option Addr) (q z : Nat) (l : List Int) (w : World) (hA : Holds w A (nums xs)) (hx : xs.length = n) (hn : n ≤ 9223372036854775807) (hB : Holds w B (bits bs)) (hy : bs.length = m) (hm : m ≤ 9223372036854775807) (hD : Holds w D (nums l)) (hz : l.length = q) (hq : q ≤ 9223372036854775807)  (hbig : (1048576 : Int) < q) :
    Calls Try.prog 3 #[.agg #[.slice A n c, .int .i64 s], .agg #[.slice B m d, .bool t], .slice D q z] w fun e w' => e = .returned (.bool true) ∧ Below w.heap.size w w' := by
  have HX := Lib.hid hx
  have HY := Lib.hid hy
  have HZ := Lib.hid hz
  clear hx hy hz
  have hused := And.intro True.intro (And.intro hn (And.intro True.intro (And.intro hm hq)))
  clear hused
  have hb0 := ((Whole.fresh w 24 #[.slice A n c, .int .i64 s]).alloc (.cells #[.slice B m d, .bool t] 27))
  have hb1 := (Whole.fresh (w.alloc (.cells #[.slice A n c, .int .i64 s] 24)) 27 #[.slice B m d, .bool t])
  simp only [World.size_alloc] at hb1
  replace hA := ((hA.alloc (.cells #[.slice A n c, .int .i64 s] 24)).alloc (.cells #[.slice B m d, .bool t] 27))
  replace hB := ((hB.alloc (.cells #[.slice A n c, .int .i64 s] 24)).alloc (.cells #[.slice B m d, .bool t] 27))
  replace hD := ((hD.alloc (.cells #[.slice A n c, .int .i64 s] 24)).alloc (.cells #[.slice B m d, .bool t] 27))
  obtain ⟨hb0_a, hb0_b, -, -⟩ := hb0.two
  have hb0_l := hb0.lt
  obtain ⟨hb1_a, hb1_b, -, -⟩ := hb1.two
  have hb1_l := hb1.lt
  go_enter Try.func3, Try.ntmps3
  go_wp2
  go_ret
  exact ⟨rfl, below2 w _ _⟩

set_option maxHeartbeats 800000 in
theorem lawCrossBridge_big1 (A : Option Addr) (n c : Nat) (xs : List Int) (s : Int) (B : Option Addr) (m d : Nat) (bs : List Bool) (t : Bool) (D : Option Addr) (q z : Nat) (l : List Int) (w : World) (hA : Holds w A (nums xs)) (hx : xs.length = n) (hn : n ≤ 9223372036854775807) (hB : Holds w B (bits bs)) (hy : bs.length = m) (hm : m ≤ 9223372036854775807) (hD : Holds w D (nums l)) (hz : l.length = q) (hq : q ≤ 9223372036854775807) (g0 : (q : Int) ≤ 1048576) (hbig : 1048576 - (n : Int) < 0) :
    Calls Try.prog 3 #[.agg #[.slice A n c, .int .i64 s], .agg #[.slice B m d, .bool t], .slice D q z] w fun e w' => e = .returned (.bool true) ∧ Below w.heap.size w w' := by
  have HX := Lib.hid hx
  have HY := Lib.hid hy
  have HZ := Lib.hid hz
  clear hx hy hz
  have hused := And.intro True.intro (And.intro hn (And.intro True.intro (And.intro hm hq)))
  clear hused
  have hb0 := ((Whole.fresh w 24 #[.slice A n c, .int .i64 s]).alloc (.cells #[.slice B m d, .bool t] 27))
  have hb1 := (Whole.fresh (w.alloc (.cells #[.slice A n c, .int .i64 s] 24)) 27 #[.slice B m d, .bool t])
  simp only [World.size_alloc] at hb1
  replace hA := ((hA.alloc (.cells #[.slice A n c, .int .i64 s] 24)).alloc (.cells #[.slice B m d, .bool t] 27))
  replace hB := ((hB.alloc (.cells #[.slice A n c, .int .i64 s] 24)).alloc (.cells #[.slice B m d, .bool t] 27))
  replace hD := ((hD.alloc (.cells #[.slice A n c, .int .i64 s] 24)).alloc (.cells #[.slice B m d, .bool t] 27))
  obtain ⟨hb0_a, hb0_b, -, -⟩ := hb0.two
  have hb0_l := hb0.lt
  obtain ⟨hb1_a, hb1_b, -, -⟩ := hb1.two
  have hb1_l := hb1.lt
  go_enter Try.func3, Try.ntmps3
  go_wp2_with fail
  refine (szParty_any A n c s (1048576) _ (by omega) (by omega) (by omega)).mono ?_
  rintro e wz1 ⟨rfl, hb⟩
  rw [if_pos (by omega)]
  have ht := below_then (below2 w _ _) hb (by simp; omega)
  go_wp2
  go_ret
  exact ⟨rfl, ht⟩

set_option maxHeartbeats 800000 in
theorem lawCrossBridge_big2 (A : Option Addr) (n c : Nat) (xs : List Int) (s : Int) (B : Option Addr) (m d : Nat) (bs : List Bool) (t : Bool) (D : Option Addr) (q z : Nat) (l : List Int) (w : World) (hA : Holds w A (nums xs)) (hx : xs.length = n) (hn : n ≤ 9223372036854775807) (hB : Holds w B (bits bs)) (hy : bs.length = m) (hm : m ≤ 9223372036854775807) (hD : Holds w D (nums l)) (hz : l.length = q) (hq : q ≤ 9223372036854775807) (g0 : (q : Int) ≤ 1048576) (g1 : 0 ≤ 1048576 - (n : Int)) (hbig : 1048576 - (n : Int) - (m : Int) < 0) :
    Calls Try.prog 3 #[.agg #[.slice A n c, .int .i64 s], .agg #[.slice B m d, .bool t], .slice D q z] w fun e w' => e = .returned (.bool true) ∧ Below w.heap.size w w' := by
  have HX := Lib.hid hx
  have HY := Lib.hid hy
  have HZ := Lib.hid hz
  clear hx hy hz
  have hused := And.intro True.intro (And.intro hn (And.intro True.intro (And.intro hm hq)))
  clear hused
  have hb0 := ((Whole.fresh w 24 #[.slice A n c, .int .i64 s]).alloc (.cells #[.slice B m d, .bool t] 27))
  have hb1 := (Whole.fresh (w.alloc (.cells #[.slice A n c, .int .i64 s] 24)) 27 #[.slice B m d, .bool t])
  simp only [World.size_alloc] at hb1
  replace hA := ((hA.alloc (.cells #[.slice A n c, .int .i64 s] 24)).alloc (.cells #[.slice B m d, .bool t] 27))
  replace hB := ((hB.alloc (.cells #[.slice A n c, .int .i64 s] 24)).alloc (.cells #[.slice B m d, .bool t] 27))
  replace hD := ((hD.alloc (.cells #[.slice A n c, .int .i64 s] 24)).alloc (.cells #[.slice B m d, .bool t] 27))
  obtain ⟨hb0_a, hb0_b, -, -⟩ := hb0.two
  have hb0_l := hb0.lt
  obtain ⟨hb1_a, hb1_b, -, -⟩ := hb1.two
  have hb1_l := hb1.lt
  go_enter Try.func3, Try.ntmps3
  go_wp2_with fail
  refine (szParty_any A n c s (1048576) _ (by omega) (by omega) (by omega)).mono ?_
  rintro e wz1 ⟨rfl, hb⟩
  rw [if_neg (by omega)]
  have ht := below_then (below2 w _ _) hb (by simp; omega)
  replace hb0 := hb0.below hb
  replace hb1 := hb1.below hb
  replace hA := hA.below hb
  replace hB := hB.below hb
  replace hD := hD.below hb
  clear hb
  clear hb0_a hb0_b hb0_l hb1_a hb1_b hb1_l
  obtain ⟨hb0_a, hb0_b, -, -⟩ := hb0.two
  have hb0_l := hb0.lt
  obtain ⟨hb1_a, hb1_b, -, -⟩ := hb1.two
  have hb1_l := hb1.lt
  go_wp2_with fail
  refine (szState_any B m d t (1048576 - (n : Int)) _ (by omega) (by omega) (by omega)).mono ?_
  rintro e wz2 ⟨rfl, hb⟩
  rw [if_pos (by omega)]
  replace ht := below_then ht hb ht.size
  go_wp2
  go_ret
  exact ⟨rfl, ht⟩

set_option maxHeartbeats 6400000 in
set_option maxRecDepth 100000 in
theorem lawCrossBridge_small (A : Option Addr) (n c : Nat) (xs : List Int) (s : Int) (B : Option Addr) (m d : Nat) (bs : List Bool) (t : Bool) (D : Option Addr) (q z : Nat) (l : List Int) (w : World) (hA : Holds w A (nums xs)) (hx : xs.length = n) (hn : n ≤ 9223372036854775807) (hB : Holds w B (bits bs)) (hy : bs.length = m) (hm : m ≤ 9223372036854775807) (hD : Holds w D (nums l)) (hz : l.length = q) (hq : q ≤ 9223372036854775807) (g0 : (q : Int) ≤ 1048576) (g1 : 0 ≤ 1048576 - (n : Int)) (g2 : 0 ≤ 1048576 - (n : Int) - (m : Int)) :
    Calls Try.prog 3 #[.agg #[.slice A n c, .int .i64 s], .agg #[.slice B m d, .bool t], .slice D q z] w fun e w' => e = .returned (.bool true) ∧ Below w.heap.size w w' := by
  have HX := Lib.hid hx
  have HY := Lib.hid hy
  have HZ := Lib.hid hz
  clear hx hy hz
  have hA0 := hA
  have hB0 := hB
  have hD0 := hD
  have hb0 := ((Whole.fresh w 24 #[.slice A n c, .int .i64 s]).alloc (.cells #[.slice B m d, .bool t] 27))
  have hb1 := (Whole.fresh (w.alloc (.cells #[.slice A n c, .int .i64 s] 24)) 27 #[.slice B m d, .bool t])
  simp only [World.size_alloc] at hb1
  replace hA := ((hA.alloc (.cells #[.slice A n c, .int .i64 s] 24)).alloc (.cells #[.slice B m d, .bool t] 27))
  replace hB := ((hB.alloc (.cells #[.slice A n c, .int .i64 s] 24)).alloc (.cells #[.slice B m d, .bool t] 27))
  replace hD := ((hD.alloc (.cells #[.slice A n c, .int .i64 s] 24)).alloc (.cells #[.slice B m d, .bool t] 27))
  obtain ⟨hb0_a, hb0_b, -, -⟩ := hb0.two
  have hb0_l := hb0.lt
  obtain ⟨hb1_a, hb1_b, -, -⟩ := hb1.two
  have hb1_l := hb1.lt
  go_enter Try.func3, Try.ntmps3
  go_wp2_with fail
  refine (szParty_any A n c s (1048576) _ (by omega) (by omega) (by omega)).mono ?_
  rintro e wz1 ⟨rfl, hb⟩
  rw [if_neg (by omega)]
  have ht := below_then (below2 w _ _) hb (by simp; omega)
  replace hb0 := hb0.below hb
  replace hb1 := hb1.below hb
  replace hA := hA.below hb
  replace hB := hB.below hb
  replace hD := hD.below hb
  clear hb
  clear hb0_a hb0_b hb0_l hb1_a hb1_b hb1_l
  obtain ⟨hb0_a, hb0_b, -, -⟩ := hb0.two
  have hb0_l := hb0.lt
  obtain ⟨hb1_a, hb1_b, -, -⟩ := hb1.two
  have hb1_l := hb1.lt
  go_wp2_with fail
  refine (szState_any B m d t (1048576 - (n : Int)) _ (by omega) (by omega) (by omega)).mono ?_
  rintro e wz2 ⟨rfl, hb⟩
  rw [if_neg (by omega)]
  replace ht := below_then ht hb ht.size
  replace hb0 := hb0.below hb
  replace hb1 := hb1.below hb
  replace hA := hA.below hb
  replace hB := hB.below hb
  replace hD := hD.below hb
  clear hb
  clear hb0_a hb0_b hb0_l hb1_a hb1_b hb1_l
  obtain ⟨hb0_a, hb0_b, -, -⟩ := hb0.two
  have hb0_l := hb0.lt
  obtain ⟨hb1_a, hb1_b, -, -⟩ := hb1.two
  have hb1_l := hb1.lt
  clear hb0_a hb0_b hb0_l hb1_a hb1_b hb1_l
  obtain ⟨hb0_a, hb0_b, -, -⟩ := hb0.two
  obtain ⟨hb1_a, hb1_b, -, -⟩ := hb1.two
  clear hA
  clear hB
  clear hD
  -- the model
  have hlen : (playBits xs n s bs t [l]).length ≤ 1048576 := playBits_le HX.out
  have hbz0 := hb0.lt
  have hbz1 := hb1.lt
  have hz0 := ht.size
  have hbzp0 := hb0.lt
  have hbzp1 := hb1.lt
  go_upto_region 10 with fail
  go_cut [8, 9] (fun s8 s9 wx => ResMid 30 4 (fun A q => #[.slice A (playBits xs n s bs t [l]).length q, .bool (playTorch xs n s bs t [l])]) (bits (playBits xs n s bs t [l])) (playOk xs n s bs t [l]) wz2 s8 s9 wx)
  case first =>
    go_region_held3 (fun w' => (w'.cell? ⟨w.heap.size, 0, none⟩ = some (.slice A n c) ∧ w'.cell? ⟨w.heap.size, 1, none⟩ = some (.int .i64 s)) ∧ (w'.cell? ⟨w.heap.size + 1, 0, none⟩ = some (.slice B m d) ∧ w'.cell? ⟨w.heap.size + 1, 1, none⟩ = some (.bool t))) (go_keep)
      (first | (go_at_call 18; first | (refine (toParty_own A n c xs s _ (by exact hA0.below (below_then ht (Below.refl wz2.heap.size wz2).drew ht.size)) HX.out (by omega)).mono ?_; rintro e wp0 ⟨gp0, rfl, hgp0, hwp0, hbp0⟩; have hcp0 := below_then (Below.refl wz2.heap.size wz2).drew hbp0 (Nat.le_refl _); have hzp0 := hcp0.size; (try (replace hbox := hbox.below hbp0; clear x0 x1 x2 x3; obtain ⟨x0, x1, x2, x3⟩ := hbox.two)); obtain ⟨kp00, jp00, -, -⟩ := (hb0.below hcp0).two; obtain ⟨kp01, jp01, -, -⟩ := (hb1.below hcp0).two) | (have hbox := Whole.fresh wz2 30 #[.slice none 0 0, .bool false]; replace hbox := hbox.drew; refine (toParty_own A n c xs s _ (by exact hA0.below (below_then ht ((Below.refl wz2.heap.size wz2).alloc (Nat.le_refl _) (.cells #[.slice none 0 0, .bool false] 30)).drew ht.size)) HX.out (by omega)).mono ?_; rintro e wp0 ⟨gp0, rfl, hgp0, hwp0, hbp0⟩; have hcp0 := below_then ((Below.refl wz2.heap.size wz2).alloc (Nat.le_refl _) (.cells #[.slice none 0 0, .bool false] 30)).drew hbp0 (by simp); have hzp0 := hcp0.size; have hy0 : w.heap.size < wz2.heap.size := (by omega); have hn0 : ¬ wz2.heap.size = w.heap.size := (by omega); have hv0 : ¬ w.heap.size = wz2.heap.size := (by omega); have hy1 : w.heap.size + 1 < wz2.heap.size := (by omega); have hn1 : ¬ wz2.heap.size = w.heap.size + 1 := (by omega); have hv1 : ¬ w.heap.size + 1 = wz2.heap.size := (by omega); replace hbox := hbox.below hbp0; obtain ⟨x0, x1, x2, x3⟩ := hbox.two; obtain ⟨kp00, jp00, -, -⟩ := (hb0.below hcp0).two; obtain ⟨kp01, jp01, -, -⟩ := (hb1.below hcp0).two)) | (go_at_call 19; first | (refine (toState_own B m d bs t _ (by exact hB0.below (below_then ht hcp0 ht.size)) HY.out (by omega)).mono ?_; rintro e wp1 ⟨gp1, rfl, hgp1, hwp1, hbp1⟩; have hcp1 := below_then hcp0 hbp1 hcp0.size; have hzp1 := hcp1.size; replace hwp0 := hwp0.below hbp1; (try (replace hbox := hbox.below hbp1; clear x0 x1 x2 x3; obtain ⟨x0, x1, x2, x3⟩ := hbox.two)); obtain ⟨kp10, jp10, -, -⟩ := (hb0.below hcp1).two; obtain ⟨kp11, jp11, -, -⟩ := (hb1.below hcp1).two) | (have hbox := Whole.fresh wp0 30 #[.slice none 0 0, .bool false]; refine (toState_own B m d bs t _ (by exact hB0.below (below_then ht (hcp0.alloc hcp0.size (.cells #[.slice none 0 0, .bool false] 30)) ht.size)) HY.out (by omega)).mono ?_; rintro e wp1 ⟨gp1, rfl, hgp1, hwp1, hbp1⟩; have hcp1 := below_then (hcp0.alloc hcp0.size (.cells #[.slice none 0 0, .bool false] 30)) hbp1 (Nat.le_trans hcp0.size (by simp)); have hzp1 := hcp1.size; replace hwp0 := (hwp0.alloc (.cells #[.slice none 0 0, .bool false] 30)).below hbp1; have hy0 : w.heap.size < wp0.heap.size := (by omega); have hn0 : ¬ wp0.heap.size = w.heap.size := (by omega); have hv0 : ¬ w.heap.size = wp0.heap.size := (by omega); have hy1 : w.heap.size + 1 < wp0.heap.size := (by omega); have hn1 : ¬ wp0.heap.size = w.heap.size + 1 := (by omega); have hv1 : ¬ w.heap.size + 1 = wp0.heap.size := (by omega); replace hbox := hbox.below hbp1; obtain ⟨x0, x1, x2, x3⟩ := hbox.two; obtain ⟨kp10, jp10, -, -⟩ := (hb0.below hcp1).two; obtain ⟨kp11, jp11, -, -⟩ := (hb1.below hcp1).two)) | (go_at_call 20; first | (refine (toIntS_own D q z l _ (by exact hD0.below (below_then ht hcp1 ht.size)) HZ.out (by omega)).mono ?_; rintro e wp2 ⟨gp2, rfl, hgp2, hwp2, hbp2⟩; have hcp2 := below_then hcp1 hbp2 hcp1.size; have hzp2 := hcp2.size; replace hwp0 := hwp0.below hbp2; replace hwp1 := hwp1.below hbp2; (try (replace hbox := hbox.below hbp2; clear x0 x1 x2 x3; obtain ⟨x0, x1, x2, x3⟩ := hbox.two)); obtain ⟨kp20, jp20, -, -⟩ := (hb0.below hcp2).two; obtain ⟨kp21, jp21, -, -⟩ := (hb1.below hcp2).two) | (have hbox := Whole.fresh wp1 30 #[.slice none 0 0, .bool false]; refine (toIntS_own D q z l _ (by exact hD0.below (below_then ht (hcp1.alloc hcp1.size (.cells #[.slice none 0 0, .bool false] 30)) ht.size)) HZ.out (by omega)).mono ?_; rintro e wp2 ⟨gp2, rfl, hgp2, hwp2, hbp2⟩; have hcp2 := below_then (hcp1.alloc hcp1.size (.cells #[.slice none 0 0, .bool false] 30)) hbp2 (Nat.le_trans hcp1.size (by simp)); have hzp2 := hcp2.size; replace hwp0 := (hwp0.alloc (.cells #[.slice none 0 0, .bool false] 30)).below hbp2; replace hwp1 := (hwp1.alloc (.cells #[.slice none 0 0, .bool false] 30)).below hbp2; have hy0 : w.heap.size < wp1.heap.size := (by omega); have hn0 : ¬ wp1.heap.size = w.heap.size := (by omega); have hv0 : ¬ w.heap.size = wp1.heap.size := (by omega); have hy1 : w.heap.size + 1 < wp1.heap.size := (by omega); have hn1 : ¬ wp1.heap.size = w.heap.size + 1 := (by omega); have hv1 : ¬ w.heap.size + 1 = wp1.heap.size := (by omega); replace hbox := hbox.below hbp2; obtain ⟨x0, x1, x2, x3⟩ := hbox.two; obtain ⟨kp20, jp20, -, -⟩ := (hb0.below hcp2).two; obtain ⟨kp21, jp21, -, -⟩ := (hb1.below hcp2).two)) | (go_at_call 17; first | ((try (have hbxl := hbox.lt)); refine (specCrossBridge_any _ _ _ n _ m _ q _ xs bs l s t _ (by exact hwp0.holds) (by exact hwp1.holds) (by exact hwp2.holds) HX.out HY.out HZ.out (by omega) (by omega) (by omega)).mono ?_; rintro e wps ⟨A0, q0, rfl, hF0, hbps⟩; have hcps := below_then hcp2 hbps hcp2.size; have hzps := hcps.size; replace hwp0 := hwp0.below hbps; replace hwp1 := hwp1.below hbps; replace hwp2 := hwp2.below hbps; (try (replace hbox := hbox.below hbps; clear x0 x1 x2 x3; obtain ⟨x0, x1, x2, x3⟩ := hbox.two)); obtain ⟨kps0, jps0, -, -⟩ := (hb0.below hcps).two; obtain ⟨kps1, jps1, -, -⟩ := (hb1.below hcps).two) | (have hbox := Whole.fresh wp2 30 #[.slice none 0 0, .bool false]; have hbxl := hbox.lt; refine (specCrossBridge_any _ _ _ n _ m _ q _ xs bs l s t _ (by exact (hwp0.alloc (.cells #[.slice none 0 0, .bool false] 30)).holds) (by exact (hwp1.alloc (.cells #[.slice none 0 0, .bool false] 30)).holds) (by exact (hwp2.alloc (.cells #[.slice none 0 0, .bool false] 30)).holds) HX.out HY.out HZ.out (by omega) (by omega) (by omega)).mono ?_; rintro e wps ⟨A0, q0, rfl, hF0, hbps⟩; have hcps := below_then (hcp2.alloc hcp2.size (.cells #[.slice none 0 0, .bool false] 30)) hbps (Nat.le_trans hcp2.size (by simp)); have hzps := hcps.size; replace hwp0 := (hwp0.alloc (.cells #[.slice none 0 0, .bool false] 30)).below hbps; replace hwp1 := (hwp1.alloc (.cells #[.slice none 0 0, .bool false] 30)).below hbps; replace hwp2 := (hwp2.alloc (.cells #[.slice none 0 0, .bool false] 30)).below hbps; have hy0 : w.heap.size < wp2.heap.size := (by omega); have hn0 : ¬ wp2.heap.size = w.heap.size := (by omega); have hv0 : ¬ w.heap.size = wp2.heap.size := (by omega); have hy1 : w.heap.size + 1 < wp2.heap.size := (by omega); have hn1 : ¬ wp2.heap.size = w.heap.size + 1 := (by omega); have hv1 : ¬ w.heap.size + 1 = wp2.heap.size := (by omega); replace hbox := hbox.below hbps; obtain ⟨x0, x1, x2, x3⟩ := hbox.two; obtain ⟨kps0, jps0, -, -⟩ := (hb0.below hcps).two; obtain ⟨kps1, jps1, -, -⟩ := (hb1.below hcps).two)))
    all_goals (go_wp2_with fail; go_meet)
    all_goals first | exact ResMid.first hcps (by first | omega | (simp; omega)) hF0 (by first | omega | (simp; omega)) (by first | omega | (simp; omega)) hbox rfl | exact ResMid.last hcps (by first | omega | (simp; omega)) hF0
  obtain ⟨wkp, rfl⟩ : ∃ W : World, W = wc := ⟨_, rfl⟩
  obtain ⟨grp, Ap, qp, lop, hip, rfl, rfl, hgrp, hglp, hlop, hdp, hhip, hwrp, hFp, hb⟩ := hcut
  have hz1 : wz2.heap.size ≤ wkp.heap.size := by have := hb.size; simpa using this
  replace ht := below_then ht hb ht.size
  replace hb0 := hb0.below hb
  replace hb1 := hb1.below hb
  clear hb
  have hr0 : Whole wkp grp 30 #[.slice Ap (playBits xs n s bs t [l]).length qp, .bool (playTorch xs n s bs t [l])] := hwrp
  clear hwrp
  have hF0 := hFp
  clear hFp
  clear hb0_a hb0_b hb1_a hb1_b
  obtain ⟨hb0_a, hb0_b, -, -⟩ := hb0.two
  obtain ⟨hb1_a, hb1_b, -, -⟩ := hb1.two
  obtain ⟨hr0_a, hr0_b, -, -⟩ := hr0.two
  have hb0_l := hb0.lt
  have hb1_l := hb1.lt
  have hr0_l := hr0.lt
  -- the program
  go_wp2_with fail
  refine (toParty_own A n c xs s _ ((hA0.below ht)) HX.out (by omega)).mono ?_
  rintro e wx0 ⟨gx0, rfl, hgx0, hwx0, hb⟩
  have hz2 : wkp.heap.size ≤ wx0.heap.size := by have := hb.size; simpa using this
  replace ht := below_then ht hb ht.size
  replace hb0 := hb0.below hb
  replace hb1 := hb1.below hb
  replace hF0 := hF0.below hb
  replace hr0 := hr0.below hb
  have hX0 := Fresh.of_whole (lo := wkp.heap.size) (hi := wx0.heap.size) hwx0 (by simpa using hgx0) hwx0.lt
  clear hb hgx0 hwx0
  have hx0 := Whole.fresh wx0 33 #[.slice (some ⟨gx0, 0, none⟩) n n, .int .i64 s]
  replace hb0 := hb0.alloc (.cells #[.slice (some ⟨gx0, 0, none⟩) n n, .int .i64 s] 33)
  replace hb1 := hb1.alloc (.cells #[.slice (some ⟨gx0, 0, none⟩) n n, .int .i64 s] 33)
  replace hF0 := hF0.alloc (.cells #[.slice (some ⟨gx0, 0, none⟩) n n, .int .i64 s] 33)
  replace hr0 := hr0.alloc (.cells #[.slice (some ⟨gx0, 0, none⟩) n n, .int .i64 s] 33)
  replace hX0 := hX0.alloc (.cells #[.slice (some ⟨gx0, 0, none⟩) n n, .int .i64 s] 33)
  replace ht := ht.alloc ht.size (.cells #[.slice (some ⟨gx0, 0, none⟩) n n, .int .i64 s] 33)
  clear hb0_a hb0_b hb1_a hb1_b hr0_a hr0_b
  obtain ⟨hb0_a, hb0_b, -, -⟩ := hb0.two
  obtain ⟨hb1_a, hb1_b, -, -⟩ := hb1.two
  obtain ⟨hr0_a, hr0_b, -, -⟩ := hr0.two
  obtain ⟨hx0_a, hx0_b, -, -⟩ := hx0.two
  clear hb0_l
  have hb0_l := hb0.lt
  clear hb1_l
  have hb1_l := hb1.lt
  clear hr0_l
  have hr0_l := hr0.lt
  have hx0_l := hx0.lt
  go_wp2_with fail
  refine (toState_own B m d bs t _ ((hB0.below ht)) HY.out (by omega)).mono ?_
  rintro e wx1 ⟨gx1, rfl, hgx1, hwx1, hb⟩
  have hz3 : wx0.heap.size + 1 ≤ wx1.heap.size := by have := hb.size; simpa using this
  replace ht := below_then ht hb ht.size
  replace hb0 := hb0.below hb
  replace hb1 := hb1.below hb
  replace hF0 := hF0.below hb
  replace hr0 := hr0.below hb
  replace hX0 := hX0.below hb
  replace hx0 := hx0.below hb
  have hX1 := Fresh.of_whole (lo := wx0.heap.size + 1) (hi := wx1.heap.size) hwx1 (by simpa using hgx1) hwx1.lt
  clear hb hgx1 hwx1
  have hx1 := Whole.fresh wx1 30 #[.slice (some ⟨gx1, 0, none⟩) m m, .bool t]
  replace hb0 := hb0.alloc (.cells #[.slice (some ⟨gx1, 0, none⟩) m m, .bool t] 30)
  replace hb1 := hb1.alloc (.cells #[.slice (some ⟨gx1, 0, none⟩) m m, .bool t] 30)
  replace hF0 := hF0.alloc (.cells #[.slice (some ⟨gx1, 0, none⟩) m m, .bool t] 30)
  replace hr0 := hr0.alloc (.cells #[.slice (some ⟨gx1, 0, none⟩) m m, .bool t] 30)
  replace hX0 := hX0.alloc (.cells #[.slice (some ⟨gx1, 0, none⟩) m m, .bool t] 30)
  replace hx0 := hx0.alloc (.cells #[.slice (some ⟨gx1, 0, none⟩) m m, .bool t] 30)
  replace hX1 := hX1.alloc (.cells #[.slice (some ⟨gx1, 0, none⟩) m m, .bool t] 30)
  replace ht := ht.alloc ht.size (.cells #[.slice (some ⟨gx1, 0, none⟩) m m, .bool t] 30)
  clear hb0_a hb0_b hb1_a hb1_b hr0_a hr0_b hx0_a hx0_b
  obtain ⟨hb0_a, hb0_b, -, -⟩ := hb0.two
  obtain ⟨hb1_a, hb1_b, -, -⟩ := hb1.two
  obtain ⟨hr0_a, hr0_b, -, -⟩ := hr0.two
  obtain ⟨hx0_a, hx0_b, -, -⟩ := hx0.two
  obtain ⟨hx1_a, hx1_b, -, -⟩ := hx1.two
  clear hb0_l
  have hb0_l := hb0.lt
  clear hb1_l
  have hb1_l := hb1.lt
  clear hr0_l
  have hr0_l := hr0.lt
  clear hx0_l
  have hx0_l := hx0.lt
  have hx1_l := hx1.lt
  go_wp2_with fail
  refine (toIntS_own D q z l _ ((hD0.below ht)) HZ.out (by omega)).mono ?_
  rintro e wx2 ⟨gx2, rfl, hgx2, hwx2, hb⟩
  have hz4 : wx1.heap.size + 1 ≤ wx2.heap.size := by have := hb.size; simpa using this
  replace ht := below_then ht hb ht.size
  replace hb0 := hb0.below hb
  replace hb1 := hb1.below hb
  replace hF0 := hF0.below hb
  replace hr0 := hr0.below hb
  replace hX0 := hX0.below hb
  replace hx0 := hx0.below hb
  replace hX1 := hX1.below hb
  replace hx1 := hx1.below hb
  have hX2 := Fresh.of_whole (lo := wx1.heap.size + 1) (hi := wx2.heap.size) hwx2 (by simpa using hgx2) hwx2.lt
  clear hb hgx2 hwx2
  clear hb0_a hb0_b hb1_a hb1_b hr0_a hr0_b hx0_a hx0_b hx1_a hx1_b
  obtain ⟨hb0_a, hb0_b, -, -⟩ := hb0.two
  obtain ⟨hb1_a, hb1_b, -, -⟩ := hb1.two
  obtain ⟨hr0_a, hr0_b, -, -⟩ := hr0.two
  obtain ⟨hx0_a, hx0_b, -, -⟩ := hx0.two
  obtain ⟨hx1_a, hx1_b, -, -⟩ := hx1.two
  clear hb0_l
  have hb0_l := hb0.lt
  clear hb1_l
  have hb1_l := hb1.lt
  clear hr0_l
  have hr0_l := hr0.lt
  clear hx0_l
  have hx0_l := hx0.lt
  clear hx1_l
  have hx1_l := hx1.lt
  go_wp2_with fail
  refine (implCrossBridge_any _ _ _ n _ m _ q _ xs bs l s t _ hX0.holds hX1.holds hX2.holds HX.out HY.out HZ.out (by omega) (by omega) (by omega)).mono ?_
  rintro e wi ⟨A1, q1, rfl, hF1, hb⟩
  have hz5 : wx2.heap.size ≤ wi.heap.size := by have := hb.size; simpa using this
  replace hF1 := hF1.more (lo' := wx2.heap.size) (hi' := wi.heap.size) (by simp) (Nat.le_refl _)
  replace ht := below_then ht hb ht.size
  replace hb0 := hb0.below hb
  replace hb1 := hb1.below hb
  replace hF0 := hF0.below hb
  replace hr0 := hr0.below hb
  replace hX0 := hX0.below hb
  replace hx0 := hx0.below hb
  replace hX1 := hX1.below hb
  replace hx1 := hx1.below hb
  replace hX2 := hX2.below hb
  clear hb
  have hr1 := Whole.fresh wi 30 #[.slice A1 (playBits xs n s bs t [l]).length q1, .bool (playTorch xs n s bs t [l])]
  replace hb0 := hb0.alloc (.cells #[.slice A1 (playBits xs n s bs t [l]).length q1, .bool (playTorch xs n s bs t [l])] 30)
  replace hb1 := hb1.alloc (.cells #[.slice A1 (playBits xs n s bs t [l]).length q1, .bool (playTorch xs n s bs t [l])] 30)
  replace hF0 := hF0.alloc (.cells #[.slice A1 (playBits xs n s bs t [l]).length q1, .bool (playTorch xs n s bs t [l])] 30)
  replace hr0 := hr0.alloc (.cells #[.slice A1 (playBits xs n s bs t [l]).length q1, .bool (playTorch xs n s bs t [l])] 30)
  replace hX0 := hX0.alloc (.cells #[.slice A1 (playBits xs n s bs t [l]).length q1, .bool (playTorch xs n s bs t [l])] 30)
  replace hx0 := hx0.alloc (.cells #[.slice A1 (playBits xs n s bs t [l]).length q1, .bool (playTorch xs n s bs t [l])] 30)
  replace hX1 := hX1.alloc (.cells #[.slice A1 (playBits xs n s bs t [l]).length q1, .bool (playTorch xs n s bs t [l])] 30)
  replace hx1 := hx1.alloc (.cells #[.slice A1 (playBits xs n s bs t [l]).length q1, .bool (playTorch xs n s bs t [l])] 30)
  replace hX2 := hX2.alloc (.cells #[.slice A1 (playBits xs n s bs t [l]).length q1, .bool (playTorch xs n s bs t [l])] 30)
  replace hF1 := hF1.alloc (.cells #[.slice A1 (playBits xs n s bs t [l]).length q1, .bool (playTorch xs n s bs t [l])] 30)
  replace ht := ht.alloc ht.size (.cells #[.slice A1 (playBits xs n s bs t [l]).length q1, .bool (playTorch xs n s bs t [l])] 30)
  clear hb0_a hb0_b hb1_a hb1_b hr0_a hr0_b hx0_a hx0_b hx1_a hx1_b
  obtain ⟨hb0_a, hb0_b, -, -⟩ := hb0.two
  obtain ⟨hb1_a, hb1_b, -, -⟩ := hb1.two
  obtain ⟨hr0_a, hr0_b, -, -⟩ := hr0.two
  obtain ⟨hx0_a, hx0_b, -, -⟩ := hx0.two
  obtain ⟨hx1_a, hx1_b, -, -⟩ := hx1.two
  obtain ⟨hr1_a, hr1_b, -, -⟩ := hr1.two
  clear hb0_l
  have hb0_l := hb0.lt
  clear hb1_l
  have hb1_l := hb1.lt
  clear hr0_l
  have hr0_l := hr0.lt
  clear hx0_l
  have hx0_l := hx0.lt
  clear hx1_l
  have hx1_l := hx1.lt
  have hr1_l := hr1.lt
  go_wp2_with fail
  refine (eqState_yes A1 Ap (playBits xs n s bs t [l]).length q1 qp (playBits xs n s bs t [l]) (playTorch xs n s bs t [l]) _ hF1.holds hF0.holds rfl (by omega)).mono ?_
  rintro e we0 ⟨rfl, hb⟩
  replace ht := below_then ht hb ht.size
  replace hb0 := hb0.below hb
  replace hb1 := hb1.below hb
  replace hF0 := hF0.below hb
  replace hr0 := hr0.below hb
  replace hX0 := hX0.below hb
  replace hx0 := hx0.below hb
  replace hX1 := hX1.below hb
  replace hx1 := hx1.below hb
  replace hX2 := hX2.below hb
  replace hF1 := hF1.below hb
  replace hr1 := hr1.below hb
  clear hb
  clear hb0_a hb0_b hb1_a hb1_b hr0_a hr0_b hx0_a hx0_b hx1_a hx1_b hr1_a hr1_b
  obtain ⟨hb0_a, hb0_b, -, -⟩ := hb0.two
  obtain ⟨hb1_a, hb1_b, -, -⟩ := hb1.two
  obtain ⟨hr0_a, hr0_b, -, -⟩ := hr0.two
  obtain ⟨hx0_a, hx0_b, -, -⟩ := hx0.two
  obtain ⟨hx1_a, hx1_b, -, -⟩ := hx1.two
  obtain ⟨hr1_a, hr1_b, -, -⟩ := hr1.two
  go_wp2_with fail
  clear hb0_a hb0_b hb1_a hb1_b hr0_a hr0_b hx0_a hx0_b hx1_a hx1_b hr1_a hr1_b
  obtain ⟨hx0_a, hx0_b, -, -⟩ := hx0.two
  obtain ⟨hb0_a, hb0_b, -, -⟩ := hb0.two
  go_region_held3 (fun w' => (w'.cell? ⟨wx0.heap.size, 0, none⟩ = some (.slice (some ⟨gx0, 0, none⟩) n n) ∧ w'.cell? ⟨wx0.heap.size, 1, none⟩ = some (.int .i64 s)) ∧ (w'.cell? ⟨w.heap.size, 0, none⟩ = some (.slice A n c) ∧ w'.cell? ⟨w.heap.size, 1, none⟩ = some (.int .i64 s))) (go_keep)
    (first | (go_at_call 18; refine (toParty_own A n c xs s _ (by exact (hA0.below ht).drew) HX.out (by omega)).mono ?_; rintro e wy0 ⟨gy0, rfl, hgy0, hwy0, hby⟩; obtain ⟨k0, k1, -, -⟩ := (hx0.drew.below hby).two; obtain ⟨k2, k3, -, -⟩ := (hb0.drew.below hby).two) | (go_at_call 23; refine (eqParty_yes _ _ n _ _ xs s _ (hX0.drew.below hby).holds hwy0.holds HX.out (by omega)).mono ?_; rintro e wq0 ⟨rfl, hbq⟩; obtain ⟨l0, l1, -, -⟩ := ((hx0.drew.below hby).below hbq).two; obtain ⟨l2, l3, -, -⟩ := ((hb0.drew.below hby).below hbq).two))
  replace ht := below_then (below_then ht.drew hby ht.size) hbq (Nat.le_trans ht.size hby.size)
  replace hb0 := (hb0.drew.below hby).below hbq
  replace hb1 := (hb1.drew.below hby).below hbq
  replace hF0 := (hF0.drew.below hby).below hbq
  replace hr0 := (hr0.drew.below hby).below hbq
  replace hX0 := (hX0.drew.below hby).below hbq
  replace hx0 := (hx0.drew.below hby).below hbq
  replace hX1 := (hX1.drew.below hby).below hbq
  replace hx1 := (hx1.drew.below hby).below hbq
  replace hX2 := (hX2.drew.below hby).below hbq
  replace hF1 := (hF1.drew.below hby).below hbq
  replace hr1 := (hr1.drew.below hby).below hbq
  clear hby hbq hwy0 hgy0
  clear hx0_a hx0_b hb0_a hb0_b
  obtain ⟨hb0_a, hb0_b, -, -⟩ := hb0.two
  obtain ⟨hb1_a, hb1_b, -, -⟩ := hb1.two
  obtain ⟨hr0_a, hr0_b, -, -⟩ := hr0.two
  obtain ⟨hx0_a, hx0_b, -, -⟩ := hx0.two
  obtain ⟨hx1_a, hx1_b, -, -⟩ := hx1.two
  obtain ⟨hr1_a, hr1_b, -, -⟩ := hr1.two
  go_wp2_with fail
  clear hb0_a hb0_b hb1_a hb1_b hr0_a hr0_b hx0_a hx0_b hx1_a hx1_b hr1_a hr1_b
  obtain ⟨hx1_a, hx1_b, -, -⟩ := hx1.two
  obtain ⟨hb1_a, hb1_b, -, -⟩ := hb1.two
  go_region_held3 (fun w' => (w'.cell? ⟨wx1.heap.size, 0, none⟩ = some (.slice (some ⟨gx1, 0, none⟩) m m) ∧ w'.cell? ⟨wx1.heap.size, 1, none⟩ = some (.bool t)) ∧ (w'.cell? ⟨w.heap.size + 1, 0, none⟩ = some (.slice B m d) ∧ w'.cell? ⟨w.heap.size + 1, 1, none⟩ = some (.bool t))) (go_keep)
    (first | (go_at_call 19; refine (toState_own B m d bs t _ (by exact (hB0.below ht).drew) HY.out (by omega)).mono ?_; rintro e wy1 ⟨gy1, rfl, hgy1, hwy1, hby⟩; obtain ⟨k0, k1, -, -⟩ := (hx1.drew.below hby).two; obtain ⟨k2, k3, -, -⟩ := (hb1.drew.below hby).two) | (go_at_call 22; refine (eqState_yes _ _ m _ _ bs t _ (hX1.drew.below hby).holds hwy1.holds HY.out (by omega)).mono ?_; rintro e wq1 ⟨rfl, hbq⟩; obtain ⟨l0, l1, -, -⟩ := ((hx1.drew.below hby).below hbq).two; obtain ⟨l2, l3, -, -⟩ := ((hb1.drew.below hby).below hbq).two))
  replace ht := below_then (below_then ht.drew hby ht.size) hbq (Nat.le_trans ht.size hby.size)
  replace hb0 := (hb0.drew.below hby).below hbq
  replace hb1 := (hb1.drew.below hby).below hbq
  replace hF0 := (hF0.drew.below hby).below hbq
  replace hr0 := (hr0.drew.below hby).below hbq
  replace hX0 := (hX0.drew.below hby).below hbq
  replace hx0 := (hx0.drew.below hby).below hbq
  replace hX1 := (hX1.drew.below hby).below hbq
  replace hx1 := (hx1.drew.below hby).below hbq
  replace hX2 := (hX2.drew.below hby).below hbq
  replace hF1 := (hF1.drew.below hby).below hbq
  replace hr1 := (hr1.drew.below hby).below hbq
  clear hby hbq hwy1 hgy1
  clear hx1_a hx1_b hb1_a hb1_b
  obtain ⟨hb0_a, hb0_b, -, -⟩ := hb0.two
  obtain ⟨hb1_a, hb1_b, -, -⟩ := hb1.two
  obtain ⟨hr0_a, hr0_b, -, -⟩ := hr0.two
  obtain ⟨hx0_a, hx0_b, -, -⟩ := hx0.two
  obtain ⟨hx1_a, hx1_b, -, -⟩ := hx1.two
  obtain ⟨hr1_a, hr1_b, -, -⟩ := hr1.two
  go_wp2_with fail
  refine (toIntS_own D q z l _ ((hD0.below ht)) HZ.out (by omega)).mono ?_
  rintro e wy2 ⟨gy2, rfl, hgy2, hwy2, hb⟩
  replace ht := below_then ht hb ht.size
  replace hb0 := hb0.below hb
  replace hb1 := hb1.below hb
  replace hF0 := hF0.below hb
  replace hr0 := hr0.below hb
  replace hX0 := hX0.below hb
  replace hx0 := hx0.below hb
  replace hX1 := hX1.below hb
  replace hx1 := hx1.below hb
  replace hX2 := hX2.below hb
  replace hF1 := hF1.below hb
  replace hr1 := hr1.below hb
  clear hb hgy2
  clear hb0_a hb0_b hb1_a hb1_b hr0_a hr0_b hx0_a hx0_b hx1_a hx1_b hr1_a hr1_b
  obtain ⟨hb0_a, hb0_b, -, -⟩ := hb0.two
  obtain ⟨hb1_a, hb1_b, -, -⟩ := hb1.two
  obtain ⟨hr0_a, hr0_b, -, -⟩ := hr0.two
  obtain ⟨hx0_a, hx0_b, -, -⟩ := hx0.two
  obtain ⟨hx1_a, hx1_b, -, -⟩ := hx1.two
  obtain ⟨hr1_a, hr1_b, -, -⟩ := hr1.two
  go_wp2_with fail
  refine (eqIntS_yes _ _ q _ _ l _ hX2.holds hwy2.holds HZ.out (by omega)).mono ?_
  rintro e wq2 ⟨rfl, hb⟩
  replace ht := below_then ht hb ht.size
  replace hb0 := hb0.below hb
  replace hb1 := hb1.below hb
  replace hF0 := hF0.below hb
  replace hr0 := hr0.below hb
  replace hX0 := hX0.below hb
  replace hx0 := hx0.below hb
  replace hX1 := hX1.below hb
  replace hx1 := hx1.below hb
  replace hX2 := hX2.below hb
  replace hF1 := hF1.below hb
  replace hr1 := hr1.below hb
  clear hb hwy2
  clear hb0_a hb0_b hb1_a hb1_b hr0_a hr0_b hx0_a hx0_b hx1_a hx1_b hr1_a hr1_b
  obtain ⟨hb0_a, hb0_b, -, -⟩ := hb0.two
  obtain ⟨hb1_a, hb1_b, -, -⟩ := hb1.two
  obtain ⟨hr0_a, hr0_b, -, -⟩ := hr0.two
  obtain ⟨hx0_a, hx0_b, -, -⟩ := hx0.two
  obtain ⟨hx1_a, hx1_b, -, -⟩ := hx1.two
  obtain ⟨hr1_a, hr1_b, -, -⟩ := hr1.two
  -- marks
  go_wp2_with fail
  refine (markParty_any (some ⟨gx0, 0, none⟩) n n _ _ _ s (1) _ hX0 (by rw [nums_len]; exact HX.out) (by omega) (by omega) (by omega)).mono ?_
  rintro e wm0 ⟨rfl, hs, -⟩
  have hsz := ht.size
  replace ht := hs.below ht (by omega) hsz
  replace hb0 := hs.whole hb0 (by omega)
  replace hb1 := hs.whole hb1 (by omega)
  replace hF0 := hs.fresh hF0 (by omega)
  replace hr0 := hs.whole hr0 (by omega)
  replace hX1 := hs.fresh hX1 (by omega)
  replace hx1 := hs.whole hx1 (by omega)
  replace hX2 := hs.fresh hX2 (by omega)
  replace hF1 := hs.fresh hF1 (by omega)
  replace hr1 := hs.whole hr1 (by omega)
  clear hs hsz hX0 hx0 hx0_a hx0_b
  clear hx0_l
  clear hb0_a hb0_b hb1_a hb1_b hr0_a hr0_b hx1_a hx1_b hr1_a hr1_b
  obtain ⟨hb0_a, hb0_b, -, -⟩ := hb0.two
  obtain ⟨hb1_a, hb1_b, -, -⟩ := hb1.two
  obtain ⟨hr0_a, hr0_b, -, -⟩ := hr0.two
  obtain ⟨hr1_a, hr1_b, -, -⟩ := hr1.two
  obtain ⟨hx1_a, hx1_b, -, -⟩ := hx1.two
  have hk0 : (0 : Int) ≤ 1 + (n : Int) := by omega
  go_wp2_with fail
  refine (markState_any (some ⟨gx1, 0, none⟩) m m _ _ _ t (1 + (n : Int)) _ hX1 (by rw [bits_len]; exact HY.out) (by omega) (by omega) (by omega)).mono ?_
  rintro e wm1 ⟨rfl, hs, -⟩
  have hsz := ht.size
  replace ht := hs.below ht (by omega) hsz
  replace hb0 := hs.whole hb0 (by omega)
  replace hb1 := hs.whole hb1 (by omega)
  replace hF0 := hs.fresh hF0 (by omega)
  replace hr0 := hs.whole hr0 (by omega)
  replace hX2 := hs.fresh hX2 (by omega)
  replace hF1 := hs.fresh hF1 (by omega)
  replace hr1 := hs.whole hr1 (by omega)
  clear hs hsz hX1 hx1 hx1_a hx1_b
  clear hx1_l
  clear hb0_a hb0_b hb1_a hb1_b hr0_a hr0_b hr1_a hr1_b
  obtain ⟨hb0_a, hb0_b, -, -⟩ := hb0.two
  obtain ⟨hb1_a, hb1_b, -, -⟩ := hb1.two
  obtain ⟨hr0_a, hr0_b, -, -⟩ := hr0.two
  obtain ⟨hr1_a, hr1_b, -, -⟩ := hr1.two
  have hk1 : (0 : Int) ≤ 1 + (n : Int) + (m : Int) := by omega
  go_wp2_with fail
  refine (markIntS_any (some ⟨gx2, 0, none⟩) q q _ _ _ (1 + (n : Int) + (m : Int)) _ hX2 (by rw [nums_len]; exact HZ.out) (by omega) (by omega) (by omega)).mono ?_
  rintro e wm2 ⟨rfl, hs, -⟩
  have hsz := ht.size
  replace ht := hs.below ht (by omega) hsz
  replace hb0 := hs.whole hb0 (by omega)
  replace hb1 := hs.whole hb1 (by omega)
  replace hF0 := hs.fresh hF0 (by omega)
  replace hr0 := hs.whole hr0 (by omega)
  replace hF1 := hs.fresh hF1 (by omega)
  replace hr1 := hs.whole hr1 (by omega)
  clear hs hsz hX2
  clear hb0_a hb0_b hb1_a hb1_b hr0_a hr0_b hr1_a hr1_b
  obtain ⟨hb0_a, hb0_b, -, -⟩ := hb0.two
  obtain ⟨hb1_a, hb1_b, -, -⟩ := hb1.two
  obtain ⟨hr0_a, hr0_b, -, -⟩ := hr0.two
  obtain ⟨hr1_a, hr1_b, -, -⟩ := hr1.two
  have hk2 : (0 : Int) ≤ 1 + (n : Int) + (m : Int) + (q : Int) := by omega
  go_wp2_with fail
  refine (eqState_yes A1 Ap (playBits xs n s bs t [l]).length q1 qp (playBits xs n s bs t [l]) (playTorch xs n s bs t [l]) _ hF1.holds hF0.holds rfl (by omega)).mono ?_
  rintro e we1 ⟨rfl, hb⟩
  replace ht := below_then ht hb ht.size
  replace hb0 := hb0.below hb
  replace hb1 := hb1.below hb
  replace hF0 := hF0.below hb
  replace hr0 := hr0.below hb
  replace hF1 := hF1.below hb
  replace hr1 := hr1.below hb
  clear hb
  clear hb0_a hb0_b hb1_a hb1_b hr0_a hr0_b hr1_a hr1_b
  obtain ⟨hb0_a, hb0_b, -, -⟩ := hb0.two
  obtain ⟨hb1_a, hb1_b, -, -⟩ := hb1.two
  obtain ⟨hr0_a, hr0_b, -, -⟩ := hr0.two
  obtain ⟨hr1_a, hr1_b, -, -⟩ := hr1.two
  go_wp2_with fail
  refine (markState_any A1 (playBits xs n s bs t [l]).length q1 _ _ _ (playTorch xs n s bs t [l]) 1 _ hF1 (by rw [bits_len]) (by omega) (by omega) hlen).mono ?_
  rintro e wn ⟨rfl, hs, hF2⟩
  have hsz := ht.size
  replace ht := hs.below ht (by omega) hsz
  replace hb0 := hs.whole hb0 (by omega)
  replace hb1 := hs.whole hb1 (by omega)
  replace hF0 := hs.fresh hF0 (by omega)
  replace hr0 := hs.whole hr0 (by omega)
  replace hr1 := hs.whole hr1 (by omega)
  clear hs hF1 hsz
  clear hb0_a hb0_b hb1_a hb1_b hr0_a hr0_b hr1_a hr1_b
  obtain ⟨hb0_a, hb0_b, -, -⟩ := hb0.two
  obtain ⟨hb1_a, hb1_b, -, -⟩ := hb1.two
  obtain ⟨hr0_a, hr0_b, -, -⟩ := hr0.two
  obtain ⟨hr1_a, hr1_b, -, -⟩ := hr1.two
  go_wp2_with fail
  refine (heldState_any A1 (playBits xs n s bs t [l]).length q1 (playTorch xs n s bs t [l]) 1 _ hF2.holds (by omega) (by omega) hlen).mono ?_
  rintro e wh0 ⟨rfl, hb⟩
  replace ht := below_then ht hb ht.size
  replace hb0 := hb0.below hb
  replace hb1 := hb1.below hb
  replace hF0 := hF0.below hb
  replace hr0 := hr0.below hb
  replace hr1 := hr1.below hb
  replace hF2 := hF2.below hb
  clear hb
  have hm0 : (0 : Int) ≤ 1 + ((playBits xs n s bs t [l]).length : Int) := by omega
  clear hb0_a hb0_b hb1_a hb1_b hr0_a hr0_b hr1_a hr1_b
  obtain ⟨hb0_a, hb0_b, -, -⟩ := hb0.two
  obtain ⟨hb1_a, hb1_b, -, -⟩ := hb1.two
  obtain ⟨hr0_a, hr0_b, -, -⟩ := hr0.two
  obtain ⟨hr1_a, hr1_b, -, -⟩ := hr1.two
  -- once more
  have hbzr0 := hb0.lt
  have hbzr1 := hb1.lt
  go_upto_region 37 with fail
  go_cut [18, 19] (fun s8 s9 wx => ResMid 30 4 (fun A q => #[.slice A (playBits xs n s bs t [l]).length q, .bool (playTorch xs n s bs t [l])]) (bits (playBits xs n s bs t [l])) (playOk xs n s bs t [l]) wh0 s8 s9 wx)
  case first =>
    go_region_held3 (fun w' => (w'.cell? ⟨w.heap.size, 0, none⟩ = some (.slice A n c) ∧ w'.cell? ⟨w.heap.size, 1, none⟩ = some (.int .i64 s)) ∧ (w'.cell? ⟨w.heap.size + 1, 0, none⟩ = some (.slice B m d) ∧ w'.cell? ⟨w.heap.size + 1, 1, none⟩ = some (.bool t))) (go_keep)
      (first | (go_at_call 18; first | (refine (toParty_own A n c xs s _ (by exact hA0.below (below_then ht (Below.refl wh0.heap.size wh0).drew ht.size)) HX.out (by omega)).mono ?_; rintro e wr0 ⟨gr0, rfl, hgr0, hwr0, hbr0⟩; have hcr0 := below_then (Below.refl wh0.heap.size wh0).drew hbr0 (Nat.le_refl _); have hzr0 := hcr0.size; (try (replace hbox := hbox.below hbr0; clear x0 x1 x2 x3; obtain ⟨x0, x1, x2, x3⟩ := hbox.two)); obtain ⟨kr00, jr00, -, -⟩ := (hb0.below hcr0).two; obtain ⟨kr01, jr01, -, -⟩ := (hb1.below hcr0).two) | (have hbox := Whole.fresh wh0 30 #[.slice none 0 0, .bool false]; replace hbox := hbox.drew; refine (toParty_own A n c xs s _ (by exact hA0.below (below_then ht ((Below.refl wh0.heap.size wh0).alloc (Nat.le_refl _) (.cells #[.slice none 0 0, .bool false] 30)).drew ht.size)) HX.out (by omega)).mono ?_; rintro e wr0 ⟨gr0, rfl, hgr0, hwr0, hbr0⟩; have hcr0 := below_then ((Below.refl wh0.heap.size wh0).alloc (Nat.le_refl _) (.cells #[.slice none 0 0, .bool false] 30)).drew hbr0 (by simp); have hzr0 := hcr0.size; have hy0 : w.heap.size < wh0.heap.size := (by omega); have hn0 : ¬ wh0.heap.size = w.heap.size := (by omega); have hv0 : ¬ w.heap.size = wh0.heap.size := (by omega); have hy1 : w.heap.size + 1 < wh0.heap.size := (by omega); have hn1 : ¬ wh0.heap.size = w.heap.size + 1 := (by omega); have hv1 : ¬ w.heap.size + 1 = wh0.heap.size := (by omega); replace hbox := hbox.below hbr0; obtain ⟨x0, x1, x2, x3⟩ := hbox.two; obtain ⟨kr00, jr00, -, -⟩ := (hb0.below hcr0).two; obtain ⟨kr01, jr01, -, -⟩ := (hb1.below hcr0).two)) | (go_at_call 19; first | (refine (toState_own B m d bs t _ (by exact hB0.below (below_then ht hcr0 ht.size)) HY.out (by omega)).mono ?_; rintro e wr1 ⟨gr1, rfl, hgr1, hwr1, hbr1⟩; have hcr1 := below_then hcr0 hbr1 hcr0.size; have hzr1 := hcr1.size; replace hwr0 := hwr0.below hbr1; (try (replace hbox := hbox.below hbr1; clear x0 x1 x2 x3; obtain ⟨x0, x1, x2, x3⟩ := hbox.two)); obtain ⟨kr10, jr10, -, -⟩ := (hb0.below hcr1).two; obtain ⟨kr11, jr11, -, -⟩ := (hb1.below hcr1).two) | (have hbox := Whole.fresh wr0 30 #[.slice none 0 0, .bool false]; refine (toState_own B m d bs t _ (by exact hB0.below (below_then ht (hcr0.alloc hcr0.size (.cells #[.slice none 0 0, .bool false] 30)) ht.size)) HY.out (by omega)).mono ?_; rintro e wr1 ⟨gr1, rfl, hgr1, hwr1, hbr1⟩; have hcr1 := below_then (hcr0.alloc hcr0.size (.cells #[.slice none 0 0, .bool false] 30)) hbr1 (Nat.le_trans hcr0.size (by simp)); have hzr1 := hcr1.size; replace hwr0 := (hwr0.alloc (.cells #[.slice none 0 0, .bool false] 30)).below hbr1; have hy0 : w.heap.size < wr0.heap.size := (by omega); have hn0 : ¬ wr0.heap.size = w.heap.size := (by omega); have hv0 : ¬ w.heap.size = wr0.heap.size := (by omega); have hy1 : w.heap.size + 1 < wr0.heap.size := (by omega); have hn1 : ¬ wr0.heap.size = w.heap.size + 1 := (by omega); have hv1 : ¬ w.heap.size + 1 = wr0.heap.size := (by omega); replace hbox := hbox.below hbr1; obtain ⟨x0, x1, x2, x3⟩ := hbox.two; obtain ⟨kr10, jr10, -, -⟩ := (hb0.below hcr1).two; obtain ⟨kr11, jr11, -, -⟩ := (hb1.below hcr1).two)) | (go_at_call 20; first | (refine (toIntS_own D q z l _ (by exact hD0.below (below_then ht hcr1 ht.size)) HZ.out (by omega)).mono ?_; rintro e wr2 ⟨gr2, rfl, hgr2, hwr2, hbr2⟩; have hcr2 := below_then hcr1 hbr2 hcr1.size; have hzr2 := hcr2.size; replace hwr0 := hwr0.below hbr2; replace hwr1 := hwr1.below hbr2; (try (replace hbox := hbox.below hbr2; clear x0 x1 x2 x3; obtain ⟨x0, x1, x2, x3⟩ := hbox.two)); obtain ⟨kr20, jr20, -, -⟩ := (hb0.below hcr2).two; obtain ⟨kr21, jr21, -, -⟩ := (hb1.below hcr2).two) | (have hbox := Whole.fresh wr1 30 #[.slice none 0 0, .bool false]; refine (toIntS_own D q z l _ (by exact hD0.below (below_then ht (hcr1.alloc hcr1.size (.cells #[.slice none 0 0, .bool false] 30)) ht.size)) HZ.out (by omega)).mono ?_; rintro e wr2 ⟨gr2, rfl, hgr2, hwr2, hbr2⟩; have hcr2 := below_then (hcr1.alloc hcr1.size (.cells #[.slice none 0 0, .bool false] 30)) hbr2 (Nat.le_trans hcr1.size (by simp)); have hzr2 := hcr2.size; replace hwr0 := (hwr0.alloc (.cells #[.slice none 0 0, .bool false] 30)).below hbr2; replace hwr1 := (hwr1.alloc (.cells #[.slice none 0 0, .bool false] 30)).below hbr2; have hy0 : w.heap.size < wr1.heap.size := (by omega); have hn0 : ¬ wr1.heap.size = w.heap.size := (by omega); have hv0 : ¬ w.heap.size = wr1.heap.size := (by omega); have hy1 : w.heap.size + 1 < wr1.heap.size := (by omega); have hn1 : ¬ wr1.heap.size = w.heap.size + 1 := (by omega); have hv1 : ¬ w.heap.size + 1 = wr1.heap.size := (by omega); replace hbox := hbox.below hbr2; obtain ⟨x0, x1, x2, x3⟩ := hbox.two; obtain ⟨kr20, jr20, -, -⟩ := (hb0.below hcr2).two; obtain ⟨kr21, jr21, -, -⟩ := (hb1.below hcr2).two)) | (go_at_call 21; first | ((try (have hbxl := hbox.lt)); refine (implCrossBridge_any _ _ _ n _ m _ q _ xs bs l s t _ (by exact hwr0.holds) (by exact hwr1.holds) (by exact hwr2.holds) HX.out HY.out HZ.out (by omega) (by omega) (by omega)).mono ?_; rintro e wrs ⟨A0, q0, rfl, hF0, hbrs⟩; have hcrs := below_then hcr2 hbrs hcr2.size; have hzrs := hcrs.size; replace hwr0 := hwr0.below hbrs; replace hwr1 := hwr1.below hbrs; replace hwr2 := hwr2.below hbrs; (try (replace hbox := hbox.below hbrs; clear x0 x1 x2 x3; obtain ⟨x0, x1, x2, x3⟩ := hbox.two)); obtain ⟨krs0, jrs0, -, -⟩ := (hb0.below hcrs).two; obtain ⟨krs1, jrs1, -, -⟩ := (hb1.below hcrs).two) | (have hbox := Whole.fresh wr2 30 #[.slice none 0 0, .bool false]; have hbxl := hbox.lt; refine (implCrossBridge_any _ _ _ n _ m _ q _ xs bs l s t _ (by exact (hwr0.alloc (.cells #[.slice none 0 0, .bool false] 30)).holds) (by exact (hwr1.alloc (.cells #[.slice none 0 0, .bool false] 30)).holds) (by exact (hwr2.alloc (.cells #[.slice none 0 0, .bool false] 30)).holds) HX.out HY.out HZ.out (by omega) (by omega) (by omega)).mono ?_; rintro e wrs ⟨A0, q0, rfl, hF0, hbrs⟩; have hcrs := below_then (hcr2.alloc hcr2.size (.cells #[.slice none 0 0, .bool false] 30)) hbrs (Nat.le_trans hcr2.size (by simp)); have hzrs := hcrs.size; replace hwr0 := (hwr0.alloc (.cells #[.slice none 0 0, .bool false] 30)).below hbrs; replace hwr1 := (hwr1.alloc (.cells #[.slice none 0 0, .bool false] 30)).below hbrs; replace hwr2 := (hwr2.alloc (.cells #[.slice none 0 0, .bool false] 30)).below hbrs; have hy0 : w.heap.size < wr2.heap.size := (by omega); have hn0 : ¬ wr2.heap.size = w.heap.size := (by omega); have hv0 : ¬ w.heap.size = wr2.heap.size := (by omega); have hy1 : w.heap.size + 1 < wr2.heap.size := (by omega); have hn1 : ¬ wr2.heap.size = w.heap.size + 1 := (by omega); have hv1 : ¬ w.heap.size + 1 = wr2.heap.size := (by omega); replace hbox := hbox.below hbrs; obtain ⟨x0, x1, x2, x3⟩ := hbox.two; obtain ⟨krs0, jrs0, -, -⟩ := (hb0.below hcrs).two; obtain ⟨krs1, jrs1, -, -⟩ := (hb1.below hcrs).two)))
    all_goals (go_wp2_with fail; go_meet)
    all_goals first | exact ResMid.first hcrs (by first | omega | (simp; omega)) hF0 (by first | omega | (simp; omega)) (by first | omega | (simp; omega)) hbox rfl | exact ResMid.last hcrs (by first | omega | (simp; omega)) hF0
  obtain ⟨wkr, rfl⟩ : ∃ W : World, W = wc := ⟨_, rfl⟩
  obtain ⟨grr, Ar, qr, lor, hir, rfl, rfl, hgrr, hglr, hlor, hdr, hhir, hwrr, hFr, hb⟩ := hcut
  have hz6 : wh0.heap.size ≤ wkr.heap.size := by have := hb.size; simpa using this
  replace ht := below_then ht hb ht.size
  replace hb0 := hb0.below hb
  replace hb1 := hb1.below hb
  replace hF0 := hF0.below hb
  replace hr0 := hr0.below hb
  replace hr1 := hr1.below hb
  replace hF2 := hF2.below hb
  clear hb
  have hr2 : Whole wkr grr 30 #[.slice Ar (playBits xs n s bs t [l]).length qr, .bool (playTorch xs n s bs t [l])] := hwrr
  clear hwrr
  have hF3 := hFr
  clear hFr
  clear hb0_a hb0_b hb1_a hb1_b hr0_a hr0_b hr1_a hr1_b
  obtain ⟨hb0_a, hb0_b, -, -⟩ := hb0.two
  obtain ⟨hb1_a, hb1_b, -, -⟩ := hb1.two
  obtain ⟨hr0_a, hr0_b, -, -⟩ := hr0.two
  obtain ⟨hr1_a, hr1_b, -, -⟩ := hr1.two
  obtain ⟨hr2_a, hr2_b, -, -⟩ := hr2.two
  have hr2_l := hr2.lt
  clear hr0_l
  have hr0_l := hr0.lt
  clear hr1_l
  have hr1_l := hr1.lt
  go_wp2_with fail
  refine (eqState_yes Ar Ap (playBits xs n s bs t [l]).length qr qp (playBits xs n s bs t [l]) (playTorch xs n s bs t [l]) _ hF3.holds hF0.holds rfl (by omega)).mono ?_
  rintro e we2 ⟨rfl, hb⟩
  replace ht := below_then ht hb ht.size
  replace hb0 := hb0.below hb
  replace hb1 := hb1.below hb
  replace hF0 := hF0.below hb
  replace hr0 := hr0.below hb
  replace hr1 := hr1.below hb
  replace hF2 := hF2.below hb
  replace hF3 := hF3.below hb
  replace hr2 := hr2.below hb
  clear hb
  clear hb0_a hb0_b hb1_a hb1_b hr0_a hr0_b hr1_a hr1_b hr2_a hr2_b
  obtain ⟨hb0_a, hb0_b, -, -⟩ := hb0.two
  obtain ⟨hb1_a, hb1_b, -, -⟩ := hb1.two
  obtain ⟨hr0_a, hr0_b, -, -⟩ := hr0.two
  obtain ⟨hr1_a, hr1_b, -, -⟩ := hr1.two
  obtain ⟨hr2_a, hr2_b, -, -⟩ := hr2.two
  go_wp2_with fail
  refine (heldState_any A1 (playBits xs n s bs t [l]).length q1 (playTorch xs n s bs t [l]) 1 _ hF2.holds (by omega) (by omega) hlen).mono ?_
  rintro e wh1 ⟨rfl, hb⟩
  replace ht := below_then ht hb ht.size
  replace hb0 := hb0.below hb
  replace hb1 := hb1.below hb
  replace hF0 := hF0.below hb
  replace hr0 := hr0.below hb
  replace hr1 := hr1.below hb
  replace hF2 := hF2.below hb
  replace hF3 := hF3.below hb
  replace hr2 := hr2.below hb
  clear hb
  go_wp2
  go_ret
  exact ⟨rfl, ht⟩

theorem lawCrossBridge_all (A : Option Addr) (n c : Nat) (xs : List Int) (s : Int) (B : Option Addr) (m d : Nat) (bs : List Bool) (t : Bool) (D : Option Addr) (q z : Nat) (l : List Int) (w : World) (hA : Holds w A (nums xs)) (hx : xs.length = n) (hn : n ≤ 9223372036854775807) (hB : Holds w B (bits bs)) (hy : bs.length = m) (hm : m ≤ 9223372036854775807) (hD : Holds w D (nums l)) (hz : l.length = q) (hq : q ≤ 9223372036854775807) :
    Calls Try.prog 3 #[.agg #[.slice A n c, .int .i64 s], .agg #[.slice B m d, .bool t], .slice D q z] w fun e w' => e = .returned (.bool true) ∧ Below w.heap.size w w' := by
  rcases (inferInstance : Decidable ((q : Int) ≤ 1048576)) with g0 | g0
  · exact lawCrossBridge_big0 A n c xs s B m d bs t D q z l w hA hx hn hB hy hm hD hz hq  (by omega)
  rcases (inferInstance : Decidable (0 ≤ 1048576 - (n : Int))) with g1 | g1
  · exact lawCrossBridge_big1 A n c xs s B m d bs t D q z l w hA hx hn hB hy hm hD hz hq g0 (by omega)
  rcases (inferInstance : Decidable (0 ≤ 1048576 - (n : Int) - (m : Int))) with g2 | g2
  · exact lawCrossBridge_big2 A n c xs s B m d bs t D q z l w hA hx hn hB hy hm hD hz hq g0 g1 (by omega)
  · exact lawCrossBridge_small A n c xs s B m d bs t D q z l w hA hx hn hB hy hm hD hz hq g0 g1 g2
end Go.Proofs.Ytionmcgaicijkaa
