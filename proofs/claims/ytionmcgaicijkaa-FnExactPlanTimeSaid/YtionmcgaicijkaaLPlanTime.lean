/-
  What is proved: the law FnExactPlanTime returns true at every argument, and leaves all that was there as it was. Conditions: the arguments are read as they lie.
-/
import Derived.Test.YtionmcgaicijkaaSum
import Derived.Test.YtionmcgaicijkaaGrid2
import Derived.Test.YtionmcgaicijkaaTripT
import Derived.Deep.RegionHeld3
import Derived.Deep.DeepCutAuto
namespace Go.Proofs.Ytionmcgaicijkaa
open Go.RowKit

set_option maxHeartbeats 800000 in
theorem lawPlanTime_big0 (A : Option Addr) (n c : Nat) (xs : List Int) (s : Int) (B : Option Addr) (m d : Nat) (bss : List RowV) (w : World) (hA : Holds w A (nums xs)) (hx : xs.length = n) (hn : n ≤ 9223372036854775807) (hB : Grid w B bss) (hy : bss.length = m) (hm : m ≤ 9223372036854775807)  (hbig : 1048576 - (n : Int) < 0) :
    Calls Try.prog 6 #[.agg #[.slice A n c, .int .i64 s], .slice B m d] w fun e w' => e = .returned (.bool true) ∧ Below w.heap.size w w' := by
  have HX := Lib.hid hx
  have HY := Lib.hid hy
  clear hx hy
  have hused := And.intro True.intro (And.intro hn (And.intro True.intro (And.intro hm hm)))
  clear hused
  have hb0 := (Whole.fresh w 24 #[.slice A n c, .int .i64 s])
  replace hA := (hA.alloc (.cells #[.slice A n c, .int .i64 s] 24))
  replace hB := (hB.alloc (.cells #[.slice A n c, .int .i64 s] 24))
  obtain ⟨hb0_a, hb0_b, -, -⟩ := hb0.two
  have hb0_l := hb0.lt
  go_enter Try.func6, Try.ntmps6
  go_wp2_with fail
  refine (szParty_any A n c s (1048576) _ (by omega) (by omega) (by omega)).mono ?_
  rintro e wz0 ⟨rfl, hb⟩
  rw [if_pos (by omega)]
  have ht := below_then (below1 w _) hb (by simp)
  go_wp2
  go_ret
  exact ⟨rfl, ht⟩

set_option maxHeartbeats 800000 in
theorem lawPlanTime_big1 (A : Option Addr) (n c : Nat) (xs : List Int) (s : Int) (B : Option Addr) (m d : Nat) (bss : List RowV) (w : World) (hA : Holds w A (nums xs)) (hx : xs.length = n) (hn : n ≤ 9223372036854775807) (hB : Grid w B bss) (hy : bss.length = m) (hm : m ≤ 9223372036854775807) (g0 : 0 ≤ 1048576 - (n : Int)) (hbig : 1048576 - (n : Int) - (total bss : Int) < 0) :
    Calls Try.prog 6 #[.agg #[.slice A n c, .int .i64 s], .slice B m d] w fun e w' => e = .returned (.bool true) ∧ Below w.heap.size w w' := by
  have HX := Lib.hid hx
  have HY := Lib.hid hy
  clear hx hy
  have hused := And.intro True.intro (And.intro hn (And.intro True.intro (And.intro hm hm)))
  clear hused
  have hb0 := (Whole.fresh w 24 #[.slice A n c, .int .i64 s])
  replace hA := (hA.alloc (.cells #[.slice A n c, .int .i64 s] 24))
  replace hB := (hB.alloc (.cells #[.slice A n c, .int .i64 s] 24))
  obtain ⟨hb0_a, hb0_b, -, -⟩ := hb0.two
  have hb0_l := hb0.lt
  go_enter Try.func6, Try.ntmps6
  go_wp2_with fail
  refine (szParty_any A n c s (1048576) _ (by omega) (by omega) (by omega)).mono ?_
  rintro e wz0 ⟨rfl, hb⟩
  rw [if_neg (by omega)]
  have ht := below_then (below1 w _) hb (by simp)
  replace hb0 := hb0.below hb
  replace hA := hA.below hb
  replace hB := hB.below hb
  clear hb
  clear hb0_a hb0_b hb0_l
  obtain ⟨hb0_a, hb0_b, -, -⟩ := hb0.two
  have hb0_l := hb0.lt
  go_wp2_with fail
  refine (szIntSS_any B m d bss (1048576 - (n : Int)) _ hB HY.out (by omega) (by omega) (by omega)).mono ?_
  rintro e wz1 ⟨rfl, rfl⟩
  rw [totalLeft, if_pos (by omega)]
  go_wp2
  go_ret
  exact ⟨rfl, ht⟩

set_option maxHeartbeats 6400000 in
set_option maxRecDepth 100000 in
theorem lawPlanTime_small (A : Option Addr) (n c : Nat) (xs : List Int) (s : Int) (B : Option Addr) (m d : Nat) (bss : List RowV) (w : World) (hA : Holds w A (nums xs)) (hx : xs.length = n) (hn : n ≤ 9223372036854775807) (hB : Grid w B bss) (hy : bss.length = m) (hm : m ≤ 9223372036854775807) (g0 : 0 ≤ 1048576 - (n : Int)) (g1 : 0 ≤ 1048576 - (n : Int) - (total bss : Int)) :
    Calls Try.prog 6 #[.agg #[.slice A n c, .int .i64 s], .slice B m d] w fun e w' => e = .returned (.bool true) ∧ Below w.heap.size w w' := by
  have HX := Lib.hid hx
  have HY := Lib.hid hy
  clear hx hy
  have hb0 := (Whole.fresh w 24 #[.slice A n c, .int .i64 s])
  replace hA := (hA.alloc (.cells #[.slice A n c, .int .i64 s] 24))
  replace hB := (hB.alloc (.cells #[.slice A n c, .int .i64 s] 24))
  obtain ⟨hb0_a, hb0_b, -, -⟩ := hb0.two
  have hb0_l := hb0.lt
  go_enter Try.func6, Try.ntmps6
  go_wp2_with fail
  refine (szParty_any A n c s (1048576) _ (by omega) (by omega) (by omega)).mono ?_
  rintro e wz0 ⟨rfl, hb⟩
  rw [if_neg (by omega)]
  have ht := below_then (below1 w _) hb (by simp)
  replace hb0 := hb0.below hb
  replace hA := hA.below hb
  replace hB := hB.below hb
  clear hb
  clear hb0_a hb0_b hb0_l
  obtain ⟨hb0_a, hb0_b, -, -⟩ := hb0.two
  have hb0_l := hb0.lt
  go_wp2_with fail
  refine (szIntSS_any B m d bss (1048576 - (n : Int)) _ hB HY.out (by omega) (by omega) (by omega)).mono ?_
  rintro e wz1 ⟨rfl, rfl⟩
  rw [totalLeft, if_neg (by omega)]
  -- the model
  go_wp2_with fail
  refine (toParty_own A n c xs s _ (hA) HX.out (by omega)).mono ?_
  rintro e wp0 ⟨gp0, rfl, hgp0, hwp0, hb⟩
  replace ht := below_then ht hb ht.size
  replace hb0 := hb0.below hb
  replace hA := hA.below hb
  replace hB := hB.below hb
  clear hb hgp0
  clear hb0_a hb0_b hb0_l
  obtain ⟨hb0_a, hb0_b, -, -⟩ := hb0.two
  have hb0_l := hb0.lt
  go_wp2_with fail
  refine (toIntSS_any B m d bss _ (hB) HY.out (by omega)).mono ?_
  rintro e wp1 ⟨gp1, wsp1, rfl, hgp1, hwp1, hep1, hlp1, hb⟩
  have HEp1 := Lib.hid hep1
  have HLp1 := Lib.hid hlp1
  clear hep1 hlp1
  replace ht := below_then ht hb ht.size
  replace hb0 := hb0.below hb
  replace hA := hA.below hb
  replace hB := hB.below hb
  replace hwp0 := hwp0.below hb
  clear hb hgp1
  clear hb0_a hb0_b hb0_l
  obtain ⟨hb0_a, hb0_b, -, -⟩ := hb0.two
  have hb0_l := hb0.lt
  go_wp2_with fail
  refine (specPlanTime_on _ _ n _ _ _ xs wsp1 (rowNums bss) s _ hwp0.holds hwp1.grid HEp1.out HX.out HLp1.out (by omega) (by omega)).mono ?_
  rintro e wps ⟨rfl, hb⟩
  replace ht := below_then ht hb ht.size
  replace hb0 := hb0.below hb
  replace hA := hA.below hb
  replace hB := hB.below hb
  clear hb hwp0 hwp1
  clear hb0_a hb0_b hb0_l
  obtain ⟨hb0_a, hb0_b, -, -⟩ := hb0.two
  have hb0_l := hb0.lt
  -- the program
  go_wp2_with fail
  refine (toParty_own A n c xs s _ (hA) HX.out (by omega)).mono ?_
  rintro e wx0 ⟨gx0, rfl, hgx0, hwx0, hb⟩
  replace ht := below_then ht hb ht.size
  replace hb0 := hb0.below hb
  replace hA := hA.below hb
  replace hB := hB.below hb
  clear hb hgx0
  have hx0 := Whole.fresh wx0 33 #[.slice (some ⟨gx0, 0, none⟩) n n, .int .i64 s]
  replace ht := ht.alloc ht.size (.cells #[.slice (some ⟨gx0, 0, none⟩) n n, .int .i64 s] 33)
  replace hb0 := hb0.alloc (.cells #[.slice (some ⟨gx0, 0, none⟩) n n, .int .i64 s] 33)
  replace hA := hA.alloc (.cells #[.slice (some ⟨gx0, 0, none⟩) n n, .int .i64 s] 33)
  replace hB := hB.alloc (.cells #[.slice (some ⟨gx0, 0, none⟩) n n, .int .i64 s] 33)
  replace hwx0 := hwx0.alloc (.cells #[.slice (some ⟨gx0, 0, none⟩) n n, .int .i64 s] 33)
  clear hb0_a hb0_b hb0_l
  obtain ⟨hb0_a, hb0_b, -, -⟩ := hb0.two
  have hb0_l := hb0.lt
  obtain ⟨hx0_a, hx0_b, -, -⟩ := hx0.two
  have hx0_l := hx0.lt
  go_wp2_with fail
  refine (toIntSS_any B m d bss _ (hB) HY.out (by omega)).mono ?_
  rintro e wx1 ⟨gx1, wsx1, rfl, hgx1, hwx1, hex1, hlx1, hb⟩
  have HEx1 := Lib.hid hex1
  have HLx1 := Lib.hid hlx1
  clear hex1 hlx1
  replace ht := below_then ht hb ht.size
  replace hb0 := hb0.below hb
  replace hA := hA.below hb
  replace hB := hB.below hb
  replace hwx0 := hwx0.below hb
  replace hx0 := hx0.below hb
  clear hb hgx1
  clear hb0_a hb0_b hb0_l hx0_a hx0_b hx0_l
  obtain ⟨hb0_a, hb0_b, -, -⟩ := hb0.two
  have hb0_l := hb0.lt
  obtain ⟨hx0_a, hx0_b, -, -⟩ := hx0.two
  have hx0_l := hx0.lt
  go_wp2_with fail
  refine (implPlanTime_on _ _ n _ _ _ xs wsx1 (rowNums bss) s _ hwx0.holds hwx1.grid HEx1.out HX.out HLx1.out (by omega) (by omega)).mono ?_
  rintro e wi ⟨rfl, hb⟩
  replace ht := below_then ht hb ht.size
  replace hb0 := hb0.below hb
  replace hA := hA.below hb
  replace hB := hB.below hb
  replace hwx0 := hwx0.below hb
  replace hx0 := hx0.below hb
  replace hwx1 := hwx1.below hb
  clear hb
  clear hb0_a hb0_b hb0_l hx0_a hx0_b hx0_l
  obtain ⟨hb0_a, hb0_b, -, -⟩ := hb0.two
  have hb0_l := hb0.lt
  obtain ⟨hx0_a, hx0_b, -, -⟩ := hx0.two
  have hx0_l := hx0.lt
  go_wp2_with fail
  clear hb0_a hb0_b hb0_l hx0_a hx0_b hx0_l
  obtain ⟨hx0_a, hx0_b, -, -⟩ := hx0.two
  have hx0_l := hx0.lt
  obtain ⟨hb0_a, hb0_b, -, -⟩ := hb0.two
  have hb0_l := hb0.lt
  go_region_held3 (fun w' => (w'.cell? ⟨wx0.heap.size, 0, none⟩ = some (.slice (some ⟨gx0, 0, none⟩) n n) ∧ w'.cell? ⟨wx0.heap.size, 1, none⟩ = some (.int .i64 s)) ∧ (w'.cell? ⟨w.heap.size, 0, none⟩ = some (.slice A n c) ∧ w'.cell? ⟨w.heap.size, 1, none⟩ = some (.int .i64 s))) (go_keep)
    (first | (go_at_call 18; refine (toParty_own A n c xs s _ (by exact hA.drew) HX.out (by omega)).mono ?_; rintro e wy0 ⟨gy0, rfl, hgy0, hwy0, hby⟩; obtain ⟨k0, k1, -, -⟩ := (hx0.drew.below hby).two; obtain ⟨k2, k3, -, -⟩ := (hb0.drew.below hby).two) | (go_at_call 23; refine (eqParty_yes _ _ n _ _ xs s _ (hwx0.drew.below hby).holds hwy0.holds HX.out (by omega)).mono ?_; rintro e wq0 ⟨rfl, hbq⟩; obtain ⟨l0, l1, -, -⟩ := ((hx0.drew.below hby).below hbq).two; obtain ⟨l2, l3, -, -⟩ := ((hb0.drew.below hby).below hbq).two))
  replace ht := below_then (below_then ht.drew hby ht.size) hbq (Nat.le_trans ht.size hby.size)
  replace hB := (hB.drew.below hby).below hbq
  replace hwx1 := (hwx1.drew.below hby).below hbq
  clear hby hbq hwy0 hgy0 hx0 hb0 hwx0 hA
  clear hx0_a hx0_b hx0_l hb0_a hb0_b hb0_l
  go_wp2_with fail
  refine (toIntSS_any B m d bss _ (hB) HY.out (by omega)).mono ?_
  rintro e wy1 ⟨gy1, wsy1, rfl, hgy1, hwy1, hey1, hly1, hb⟩
  have HEy1 := Lib.hid hey1
  have HLy1 := Lib.hid hly1
  clear hey1 hly1
  replace ht := below_then ht hb ht.size
  replace hB := hB.below hb
  replace hwx1 := hwx1.below hb
  clear hb hgy1
  go_wp2_with fail
  refine (eqIntSS_yes _ _ m m _ _ wsx1 wsy1 _ hwx1.grid hwy1.grid (by rw [HEx1.out, HEy1.out]) HLx1.out HLy1.out (by omega)).mono ?_
  rintro e wq1 ⟨rfl, hb⟩
  replace ht := below_then ht hb ht.size
  replace hB := hB.below hb
  replace hwx1 := hwx1.below hb
  replace hwy1 := hwy1.below hb
  clear hb
  go_wp2
  go_ret
  exact ⟨rfl, ht⟩

theorem lawPlanTime_all (A : Option Addr) (n c : Nat) (xs : List Int) (s : Int) (B : Option Addr) (m d : Nat) (bss : List RowV) (w : World) (hA : Holds w A (nums xs)) (hx : xs.length = n) (hn : n ≤ 9223372036854775807) (hB : Grid w B bss) (hy : bss.length = m) (hm : m ≤ 9223372036854775807) :
    Calls Try.prog 6 #[.agg #[.slice A n c, .int .i64 s], .slice B m d] w fun e w' => e = .returned (.bool true) ∧ Below w.heap.size w w' := by
  rcases (inferInstance : Decidable (0 ≤ 1048576 - (n : Int))) with g0 | g0
  · exact lawPlanTime_big0 A n c xs s B m d bss w hA hx hn hB hy hm  (by omega)
  rcases (inferInstance : Decidable (0 ≤ 1048576 - (n : Int) - (total bss : Int))) with g1 | g1
  · exact lawPlanTime_big1 A n c xs s B m d bss w hA hx hn hB hy hm g0 (by omega)
  · exact lawPlanTime_small A n c xs s B m d bss w hA hx hn hB hy hm g0 g1
end Go.Proofs.Ytionmcgaicijkaa
