/-
  What is proved: the law FnExactBackPlan returns true at every argument, and leaves all that was there as it was. Conditions: the arguments are read as they lie.
-/
import Derived.Test.YtionmcgaicijkaaBackI
import Derived.Test.YtionmcgaicijkaaGrid3
import Derived.Test.YtionmcgaicijkaaTripT
import Derived.Deep.RegionHeld3
import Derived.Deep.DeepCutAuto
namespace Go.Proofs.Ytionmcgaicijkaa
open Go.RowKit

set_option maxHeartbeats 800000 in
theorem lawBackPlan_big0 (A : Option Addr) (n c : Nat) (xs : List Int) (s : Int) (B : Option Addr) (m d : Nat) (bss : List RowV) (w : World) (hA : Holds w A (nums xs)) (hx : xs.length = n) (hn : n ≤ 9223372036854775807) (hB : Grid w B bss) (hy : bss.length = m) (hm : m ≤ 9223372036854775807)  (hbig : 1048576 - (n : Int) < 0) :
    Calls Try.prog 8 #[.agg #[.slice A n c, .int .i64 s], .slice B m d] w fun e w' => e = .returned (.bool true) ∧ Below w.heap.size w w' := by
  have HX := Lib.hid hx
  have HY := Lib.hid hy
  clear hx hy
  have hused := And.intro True.intro (And.intro hn (And.intro True.intro (And.intro hm hm)))
  clear hused
  have hb0 := (Whole.fresh w 24 #[.slice A n c, .int .i64 s])
  replace hA := (hA.alloc (.cells #[.slice A n c, .int .i64 s] 24))
  replace hB := (hB.alloc (.cells #[.slice A n c, .int .i64 s] 24))
  obtain ⟨hb0_a, hb0_b, -, -⟩ := hb0.two
  have hb0_l := hb0.lt
  go_enter Try.func8, Try.ntmps8
  go_wp2_with fail
  refine (szParty_any A n c s (1048576) _ (by omega) (by omega) (by omega)).mono ?_
  rintro e wz0 ⟨rfl, hb⟩
  rw [if_pos (by omega)]
  have ht := below_then (below1 w _) hb (by simp)
  go_wp2
  go_ret
  exact ⟨rfl, ht⟩

set_option maxHeartbeats 800000 in
theorem lawBackPlan_big1 (A : Option Addr) (n c : Nat) (xs : List Int) (s : Int) (B : Option Addr) (m d : Nat) (bss : List RowV) (w : World) (hA : Holds w A (nums xs)) (hx : xs.length = n) (hn : n ≤ 9223372036854775807) (hB : Grid w B bss) (hy : bss.length = m) (hm : m ≤ 9223372036854775807) (g0 : 0 ≤ 1048576 - (n : Int)) (hbig : 1048576 - (n : Int) - (total bss : Int) < 0) :
    Calls Try.prog 8 #[.agg #[.slice A n c, .int .i64 s], .slice B m d] w fun e w' => e = .returned (.bool true) ∧ Below w.heap.size w w' := by
  have HX := Lib.hid hx
  have HY := Lib.hid hy
  clear hx hy
  have hused := And.intro True.intro (And.intro hn (And.intro True.intro (And.intro hm hm)))
  clear hused
  have hb0 := (Whole.fresh w 24 #[.slice A n c, .int .i64 s])
  replace hA := (hA.alloc (.cells #[.slice A n c, .int .i64 s] 24))
  replace hB := (hB.alloc (.cells #[.slice A n c, .int .i64 s] 24))
  obtain ⟨hb0_a, hb0_b, -, -⟩ := hb0.two
  have hb0_l := hb0.lt
  go_enter Try.func8, Try.ntmps8
  go_wp2_with fail
  refine (szParty_any A n c s (1048576) _ (by omega) (by omega) (by omega)).mono ?_
  rintro e wz0 ⟨rfl, hb⟩
  rw [if_neg (by omega)]
  have ht := below_then (below1 w _) hb (by simp)
  replace hb0 := hb0.below hb
  replace hA := hA.below hb
  replace hB := hB.below hb
  clear hb
  clear hb0_a hb0_b hb0_l
  obtain ⟨hb0_a, hb0_b, -, -⟩ := hb0.two
  have hb0_l := hb0.lt
  go_wp2_with fail
  refine (szIntSS_any B m d bss (1048576 - (n : Int)) _ hB HY.out (by omega) (by omega) (by omega)).mono ?_
  rintro e wz1 ⟨rfl, rfl⟩
  rw [totalLeft, if_pos (by omega)]
  go_wp2
  go_ret
  exact ⟨rfl, ht⟩

set_option maxHeartbeats 6400000 in
set_option maxRecDepth 100000 in
theorem lawBackPlan_small (A : Option Addr) (n c : Nat) (xs : List Int) (s : Int) (B : Option Addr) (m d : Nat) (bss : List RowV) (w : World) (hA : Holds w A (nums xs)) (hx : xs.length = n) (hn : n ≤ 9223372036854775807) (hB : Grid w B bss) (hy : bss.length = m) (hm : m ≤ 9223372036854775807) (g0 : 0 ≤ 1048576 - (n : Int)) (g1 : 0 ≤ 1048576 - (n : Int) - (total bss : Int)) :
    Calls Try.prog 8 #[.agg #[.slice A n c, .int .i64 s], .slice B m d] w fun e w' => e = .returned (.bool true) ∧ Below w.heap.size w w' := by
  have HX := Lib.hid hx
  have HY := Lib.hid hy
  clear hx hy
  have hA0 := hA
  have hB0 := hB
  have hb0 := (Whole.fresh w 24 #[.slice A n c, .int .i64 s])
  replace hA := (hA.alloc (.cells #[.slice A n c, .int .i64 s] 24))
  replace hB := (hB.alloc (.cells #[.slice A n c, .int .i64 s] 24))
  obtain ⟨hb0_a, hb0_b, -, -⟩ := hb0.two
  have hb0_l := hb0.lt
  go_enter Try.func8, Try.ntmps8
  go_wp2_with fail
  refine (szParty_any A n c s (1048576) _ (by omega) (by omega) (by omega)).mono ?_
  rintro e wz0 ⟨rfl, hb⟩
  rw [if_neg (by omega)]
  have ht := below_then (below1 w _) hb (by simp)
  replace hb0 := hb0.below hb
  replace hA := hA.below hb
  replace hB := hB.below hb
  clear hb
  clear hb0_a hb0_b hb0_l
  obtain ⟨hb0_a, hb0_b, -, -⟩ := hb0.two
  have hb0_l := hb0.lt
  go_wp2_with fail
  refine (szIntSS_any B m d bss (1048576 - (n : Int)) _ hB HY.out (by omega) (by omega) (by omega)).mono ?_
  rintro e wz1 ⟨rfl, rfl⟩
  rw [totalLeft, if_neg (by omega)]
  clear hb0_a hb0_b hb0_l
  obtain ⟨hb0_a, hb0_b, -, -⟩ := hb0.two
  clear hA
  clear hB
  -- the model
  have hlen : (backed xs n s (rowNums bss)).length ≤ 1048576 ∧ ((backed xs n s (rowNums bss)).map List.length).sum ≤ 1048576 := backed_le
  have hcap1 : m ≤ 1048576 := by have := total_len bss; have := HY.out; omega
  have hbz0 := hb0.lt
  have hz0 := ht.size
  go_wp2_with fail
  refine (toParty_own A n c xs s _ ((hA0.below ht)) HX.out (by omega)).mono ?_
  rintro e wp0 ⟨gp0, rfl, hgp0, hwp0, hb⟩
  have hz1 : wz0.heap.size ≤ wp0.heap.size := by have := hb.size; simpa using this
  replace ht := below_then ht hb ht.size
  replace hb0 := hb0.below hb
  clear hb hgp0
  clear hb0_a hb0_b
  obtain ⟨hb0_a, hb0_b, -, -⟩ := hb0.two
  go_wp2_with fail
  refine (toIntSS_any B m d bss _ ((hB0.below ht)) HY.out (by omega)).mono ?_
  rintro e wp1 ⟨gp1, wsp1, rfl, hgp1, hwp1, hep1, hlp1, hb⟩
  have hz2 : wp0.heap.size ≤ wp1.heap.size := by have := hb.size; simpa using this
  have HEp1 := Lib.hid hep1
  have HLp1 := Lib.hid hlp1
  clear hep1 hlp1
  replace ht := below_then ht hb ht.size
  replace hb0 := hb0.below hb
  replace hwp0 := hwp0.below hb
  clear hb hgp1
  clear hb0_a hb0_b
  obtain ⟨hb0_a, hb0_b, -, -⟩ := hb0.two
  go_wp2_with fail
  refine (specBack_on _ _ n _ _ _ xs wsp1 (rowNums bss) s _ hwp0.holds hwp1.grid HEp1.out HX.out HLp1.out (by omega) (by omega)).mono ?_
  rintro e wps ⟨A0, n0, q0, rs0, rfl, he0, hl0, hF0, hb⟩
  have hz3 : wp1.heap.size ≤ wps.heap.size := by have := hb.size; simpa using this
  replace ht := below_then ht hb ht.size
  replace hb0 := hb0.below hb
  clear hb hwp0 hwp1
  have HER0 := Lib.hid he0
  have HLR0 := Lib.hid hl0
  have hnr0 : n0 ≤ 1048576 := by have h1 := hl0; have h2 := congrArg List.length he0; rw [rowNums_len] at h2; have h3 := hlen.1; omega
  clear he0 hl0
  clear hb0_a hb0_b
  obtain ⟨hb0_a, hb0_b, -, -⟩ := hb0.two
  have hb0_l := hb0.lt
  -- the program
  go_wp2_with fail
  refine (toParty_own A n c xs s _ ((hA0.below ht)) HX.out (by omega)).mono ?_
  rintro e wx0 ⟨gx0, rfl, hgx0, hwx0, hb⟩
  have hz4 : wps.heap.size ≤ wx0.heap.size := by have := hb.size; simpa using this
  replace ht := below_then ht hb ht.size
  replace hb0 := hb0.below hb
  replace hF0 := hF0.below hb
  have hX0 := Fresh.of_whole (lo := wps.heap.size) (hi := wx0.heap.size) hwx0 (by simpa using hgx0) hwx0.lt
  clear hb hgx0 hwx0
  have hx0 := Whole.fresh wx0 33 #[.slice (some ⟨gx0, 0, none⟩) n n, .int .i64 s]
  replace hb0 := hb0.alloc (.cells #[.slice (some ⟨gx0, 0, none⟩) n n, .int .i64 s] 33)
  replace hF0 := hF0.alloc (.cells #[.slice (some ⟨gx0, 0, none⟩) n n, .int .i64 s] 33)
  replace hX0 := hX0.alloc (.cells #[.slice (some ⟨gx0, 0, none⟩) n n, .int .i64 s] 33)
  replace ht := ht.alloc ht.size (.cells #[.slice (some ⟨gx0, 0, none⟩) n n, .int .i64 s] 33)
  clear hb0_a hb0_b
  obtain ⟨hb0_a, hb0_b, -, -⟩ := hb0.two
  obtain ⟨hx0_a, hx0_b, -, -⟩ := hx0.two
  clear hb0_l
  have hb0_l := hb0.lt
  have hx0_l := hx0.lt
  go_wp2_with fail
  refine (toIntSS_any B m d bss _ ((hB0.below ht)) HY.out (by omega)).mono ?_
  rintro e wx1 ⟨gx1, wsx1, rfl, hgx1, hwx1, hex1, hlx1, hb⟩
  have hz5 : wx0.heap.size + 1 ≤ wx1.heap.size := by have := hb.size; simpa using this
  have HEx1 := Lib.hid hex1
  have HLx1 := Lib.hid hlx1
  clear hex1 hlx1
  replace ht := below_then ht hb ht.size
  replace hb0 := hb0.below hb
  replace hF0 := hF0.below hb
  replace hX0 := hX0.below hb
  replace hx0 := hx0.below hb
  have hX1 := hwx1.free.more (lo' := wx0.heap.size + 1) (hi' := wx1.heap.size) (by simpa using hgx1) (Nat.le_refl _)
  clear hb hgx1 hwx1
  clear hb0_a hb0_b hx0_a hx0_b
  obtain ⟨hb0_a, hb0_b, -, -⟩ := hb0.two
  obtain ⟨hx0_a, hx0_b, -, -⟩ := hx0.two
  clear hb0_l
  have hb0_l := hb0.lt
  clear hx0_l
  have hx0_l := hx0.lt
  go_wp2_with fail
  refine (implBack_on _ _ n _ _ _ xs wsx1 (rowNums bss) s _ hX0.holds hX1.grid HEx1.out HX.out HLx1.out (by omega) (by omega)).mono ?_
  rintro e wi ⟨A1, n1, q1, rs1, rfl, he1, hl1, hF1, hb⟩
  have HER1 := Lib.hid he1
  have HLR1 := Lib.hid hl1
  have hnr1 : n1 ≤ 1048576 := by have h1 := hl1; have h2 := congrArg List.length he1; rw [rowNums_len] at h2; have h3 := hlen.1; omega
  clear he1 hl1
  have hz6 : wx1.heap.size ≤ wi.heap.size := by have := hb.size; simpa using this
  replace hF1 := hF1.more (lo' := wx1.heap.size) (hi' := wi.heap.size) (by simp) (Nat.le_refl _)
  replace ht := below_then ht hb ht.size
  replace hb0 := hb0.below hb
  replace hF0 := hF0.below hb
  replace hX0 := hX0.below hb
  replace hx0 := hx0.below hb
  replace hX1 := hX1.below hb
  clear hb
  clear hb0_a hb0_b hx0_a hx0_b
  obtain ⟨hb0_a, hb0_b, -, -⟩ := hb0.two
  obtain ⟨hx0_a, hx0_b, -, -⟩ := hx0.two
  clear hb0_l
  have hb0_l := hb0.lt
  clear hx0_l
  have hx0_l := hx0.lt
  go_wp2_with fail
  refine (eqIntSS_yes A1 A0 n1 n0 q1 q0 rs1 rs0 _ hF1.grid hF0.grid (by rw [HER1.out, HER0.out]) HLR1.out HLR0.out (by omega)).mono ?_
  rintro e we0 ⟨rfl, hb⟩
  replace ht := below_then ht hb ht.size
  replace hb0 := hb0.below hb
  replace hF0 := hF0.below hb
  replace hX0 := hX0.below hb
  replace hx0 := hx0.below hb
  replace hX1 := hX1.below hb
  replace hF1 := hF1.below hb
  clear hb
  clear hb0_a hb0_b hx0_a hx0_b
  obtain ⟨hb0_a, hb0_b, -, -⟩ := hb0.two
  obtain ⟨hx0_a, hx0_b, -, -⟩ := hx0.two
  go_wp2_with fail
  clear hb0_a hb0_b hx0_a hx0_b
  obtain ⟨hx0_a, hx0_b, -, -⟩ := hx0.two
  obtain ⟨hb0_a, hb0_b, -, -⟩ := hb0.two
  go_region_held3 (fun w' => (w'.cell? ⟨wx0.heap.size, 0, none⟩ = some (.slice (some ⟨gx0, 0, none⟩) n n) ∧ w'.cell? ⟨wx0.heap.size, 1, none⟩ = some (.int .i64 s)) ∧ (w'.cell? ⟨w.heap.size, 0, none⟩ = some (.slice A n c) ∧ w'.cell? ⟨w.heap.size, 1, none⟩ = some (.int .i64 s))) (go_keep)
    (first | (go_at_call 18; refine (toParty_own A n c xs s _ (by exact (hA0.below ht).drew) HX.out (by omega)).mono ?_; rintro e wy0 ⟨gy0, rfl, hgy0, hwy0, hby⟩; obtain ⟨k0, k1, -, -⟩ := (hx0.drew.below hby).two; obtain ⟨k2, k3, -, -⟩ := (hb0.drew.below hby).two) | (go_at_call 23; refine (eqParty_yes _ _ n _ _ xs s _ (hX0.drew.below hby).holds hwy0.holds HX.out (by omega)).mono ?_; rintro e wq0 ⟨rfl, hbq⟩; obtain ⟨l0, l1, -, -⟩ := ((hx0.drew.below hby).below hbq).two; obtain ⟨l2, l3, -, -⟩ := ((hb0.drew.below hby).below hbq).two))
  replace ht := below_then (below_then ht.drew hby ht.size) hbq (Nat.le_trans ht.size hby.size)
  replace hb0 := (hb0.drew.below hby).below hbq
  replace hF0 := (hF0.drew.below hby).below hbq
  replace hX0 := (hX0.drew.below hby).below hbq
  replace hx0 := (hx0.drew.below hby).below hbq
  replace hX1 := (hX1.drew.below hby).below hbq
  replace hF1 := (hF1.drew.below hby).below hbq
  clear hby hbq hwy0 hgy0
  clear hx0_a hx0_b hb0_a hb0_b
  obtain ⟨hb0_a, hb0_b, -, -⟩ := hb0.two
  obtain ⟨hx0_a, hx0_b, -, -⟩ := hx0.two
  go_wp2_with fail
  refine (toIntSS_any B m d bss _ ((hB0.below ht)) HY.out (by omega)).mono ?_
  rintro e wy1 ⟨gy1, wsy1, rfl, hgy1, hwy1, hey1, hly1, hb⟩
  have HEy1 := Lib.hid hey1
  have HLy1 := Lib.hid hly1
  clear hey1 hly1
  replace ht := below_then ht hb ht.size
  replace hb0 := hb0.below hb
  replace hF0 := hF0.below hb
  replace hX0 := hX0.below hb
  replace hx0 := hx0.below hb
  replace hX1 := hX1.below hb
  replace hF1 := hF1.below hb
  clear hb hgy1
  clear hb0_a hb0_b hx0_a hx0_b
  obtain ⟨hb0_a, hb0_b, -, -⟩ := hb0.two
  obtain ⟨hx0_a, hx0_b, -, -⟩ := hx0.two
  go_wp2_with fail
  refine (eqIntSS_yes _ _ m m _ _ wsx1 wsy1 _ hX1.grid hwy1.grid (by rw [HEx1.out, HEy1.out]) HLx1.out HLy1.out (by omega)).mono ?_
  rintro e wq1 ⟨rfl, hb⟩
  replace ht := below_then ht hb ht.size
  replace hb0 := hb0.below hb
  replace hF0 := hF0.below hb
  replace hX0 := hX0.below hb
  replace hx0 := hx0.below hb
  replace hX1 := hX1.below hb
  replace hF1 := hF1.below hb
  clear hb hwy1
  clear hb0_a hb0_b hx0_a hx0_b
  obtain ⟨hb0_a, hb0_b, -, -⟩ := hb0.two
  obtain ⟨hx0_a, hx0_b, -, -⟩ := hx0.two
  -- marks
  go_wp2_with fail
  refine (markParty_any (some ⟨gx0, 0, none⟩) n n _ _ _ s (1) _ hX0 (by rw [nums_len]; exact HX.out) (by omega) (by omega) (by omega)).mono ?_
  rintro e wm0 ⟨rfl, hs, -⟩
  have hsz := ht.size
  replace ht := hs.below ht (by omega) hsz
  replace hb0 := hs.whole hb0 (by omega)
  replace hF0 := hs.freeGrid hF0 (by omega)
  replace hX1 := hs.freeGrid hX1 (by omega)
  replace hF1 := hs.freeGrid hF1 (by omega)
  clear hs hsz hX0 hx0 hx0_a hx0_b
  clear hx0_l
  clear hb0_a hb0_b
  obtain ⟨hb0_a, hb0_b, -, -⟩ := hb0.two
  have hk0 : (0 : Int) ≤ 1 + (n : Int) := by omega
  go_wp2_with fail
  have hsum1 : part wsx1 wsx1.length ≤ 1048576 := by rw [part_nums hX1.grid hB0 HEx1.out]; have := part_total bss; omega
  refine (markIntSS_any (some ⟨gx1, 0, none⟩) m m _ _ wsx1 (1 + (n : Int)) _ hX1 HLx1.out (by omega) (by omega) (by omega) hsum1).mono ?_
  rintro e wm1 ⟨rfl, hs, -⟩
  have hsz := ht.size
  replace ht := hs.below ht (by omega) hsz
  replace hb0 := hs.whole hb0 (by omega)
  replace hF0 := hs.freeGrid hF0 (by omega)
  replace hF1 := hs.freeGrid hF1 (by omega)
  clear hs hsz hX1
  clear hb0_a hb0_b
  obtain ⟨hb0_a, hb0_b, -, -⟩ := hb0.two
  have hk1 : (0 : Int) ≤ 1 + (n : Int) + ((part wsx1 wsx1.length : Nat) : Int) := by omega
  go_wp2_with fail
  refine (eqIntSS_yes A1 A0 n1 n0 q1 q0 rs1 rs0 _ hF1.grid hF0.grid (by rw [HER1.out, HER0.out]) HLR1.out HLR0.out (by omega)).mono ?_
  rintro e we1 ⟨rfl, hb⟩
  replace ht := below_then ht hb ht.size
  replace hb0 := hb0.below hb
  replace hF0 := hF0.below hb
  replace hF1 := hF1.below hb
  clear hb
  clear hb0_a hb0_b
  obtain ⟨hb0_a, hb0_b, -, -⟩ := hb0.two
  go_wp2_with fail
  have hprt : part rs1 rs1.length ≤ 1048576 := by have h1 := part_lens hF1.grid; have h2 := hlen.2; rw [HER1.out] at h1; omega
  refine (markIntSS_any A1 n1 q1 _ _ rs1 1 _ hF1 HLR1.out (by omega) (by omega) hnr1 hprt).mono ?_
  rintro e wn ⟨rfl, hs, hF2⟩
  have hsz := ht.size
  replace ht := hs.below ht (by omega) hsz
  replace hb0 := hs.whole hb0 (by omega)
  replace hF0 := hs.freeGrid hF0 (by omega)
  clear hs hF1 hsz
  clear hb0_a hb0_b
  obtain ⟨hb0_a, hb0_b, -, -⟩ := hb0.two
  go_wp2_with fail
  refine (heldIntSS_any A1 n1 q1 rs1 1 _ hF2.grid HLR1.out (by omega) (by omega) hnr1 hprt).mono ?_
  rintro e wh0 ⟨rfl, hb⟩
  replace ht := below_then ht hb ht.size
  replace hb0 := hb0.below hb
  replace hF0 := hF0.below hb
  replace hF2 := hF2.below hb
  clear hb
  have hm0 : (0 : Int) ≤ 1 + ((part rs1 rs1.length : Nat) : Int) := by omega
  clear hb0_a hb0_b
  obtain ⟨hb0_a, hb0_b, -, -⟩ := hb0.two
  -- once more
  go_wp2_with fail
  refine (toParty_own A n c xs s _ ((hA0.below ht)) HX.out (by omega)).mono ?_
  rintro e wr0 ⟨gr0, rfl, hgr0, hwr0, hb⟩
  have hz7 : wh0.heap.size ≤ wr0.heap.size := by have := hb.size; simpa using this
  replace ht := below_then ht hb ht.size
  replace hb0 := hb0.below hb
  replace hF0 := hF0.below hb
  replace hF2 := hF2.below hb
  clear hb hgr0
  clear hb0_a hb0_b
  obtain ⟨hb0_a, hb0_b, -, -⟩ := hb0.two
  go_wp2_with fail
  refine (toIntSS_any B m d bss _ ((hB0.below ht)) HY.out (by omega)).mono ?_
  rintro e wr1 ⟨gr1, wsr1, rfl, hgr1, hwr1, her1, hlr1, hb⟩
  have hz8 : wr0.heap.size ≤ wr1.heap.size := by have := hb.size; simpa using this
  have HEr1 := Lib.hid her1
  have HLr1 := Lib.hid hlr1
  clear her1 hlr1
  replace ht := below_then ht hb ht.size
  replace hb0 := hb0.below hb
  replace hF0 := hF0.below hb
  replace hF2 := hF2.below hb
  replace hwr0 := hwr0.below hb
  clear hb hgr1
  clear hb0_a hb0_b
  obtain ⟨hb0_a, hb0_b, -, -⟩ := hb0.two
  go_wp2_with fail
  refine (implBack_on _ _ n _ _ _ xs wsr1 (rowNums bss) s _ hwr0.holds hwr1.grid HEr1.out HX.out HLr1.out (by omega) (by omega)).mono ?_
  rintro e wrs ⟨A2, n2, q2, rs2, rfl, he2, hl2, hF3, hb⟩
  have hz9 : wr1.heap.size ≤ wrs.heap.size := by have := hb.size; simpa using this
  replace ht := below_then ht hb ht.size
  replace hb0 := hb0.below hb
  replace hF0 := hF0.below hb
  replace hF2 := hF2.below hb
  clear hb hwr0 hwr1
  have HER2 := Lib.hid he2
  have HLR2 := Lib.hid hl2
  have hnr2 : n2 ≤ 1048576 := by have h1 := hl2; have h2 := congrArg List.length he2; rw [rowNums_len] at h2; have h3 := hlen.1; omega
  clear he2 hl2
  clear hb0_a hb0_b
  obtain ⟨hb0_a, hb0_b, -, -⟩ := hb0.two
  go_wp2_with fail
  refine (eqIntSS_yes A2 A0 n2 n0 q2 q0 rs2 rs0 _ hF3.grid hF0.grid (by rw [HER2.out, HER0.out]) HLR2.out HLR0.out (by omega)).mono ?_
  rintro e we2 ⟨rfl, hb⟩
  replace ht := below_then ht hb ht.size
  replace hb0 := hb0.below hb
  replace hF0 := hF0.below hb
  replace hF2 := hF2.below hb
  replace hF3 := hF3.below hb
  clear hb
  clear hb0_a hb0_b
  obtain ⟨hb0_a, hb0_b, -, -⟩ := hb0.two
  go_wp2_with fail
  refine (heldIntSS_any A1 n1 q1 rs1 1 _ hF2.grid HLR1.out (by omega) (by omega) hnr1 hprt).mono ?_
  rintro e wh1 ⟨rfl, hb⟩
  replace ht := below_then ht hb ht.size
  replace hb0 := hb0.below hb
  replace hF0 := hF0.below hb
  replace hF2 := hF2.below hb
  replace hF3 := hF3.below hb
  clear hb
  go_wp2
  go_ret
  exact ⟨rfl, ht⟩

theorem lawBackPlan_all (A : Option Addr) (n c : Nat) (xs : List Int) (s : Int) (B : Option Addr) (m d : Nat) (bss : List RowV) (w : World) (hA : Holds w A (nums xs)) (hx : xs.length = n) (hn : n ≤ 9223372036854775807) (hB : Grid w B bss) (hy : bss.length = m) (hm : m ≤ 9223372036854775807) :
    Calls Try.prog 8 #[.agg #[.slice A n c, .int .i64 s], .slice B m d] w fun e w' => e = .returned (.bool true) ∧ Below w.heap.size w w' := by
  rcases (inferInstance : Decidable (0 ≤ 1048576 - (n : Int))) with g0 | g0
  · exact lawBackPlan_big0 A n c xs s B m d bss w hA hx hn hB hy hm  (by omega)
  rcases (inferInstance : Decidable (0 ≤ 1048576 - (n : Int) - (total bss : Int))) with g1 | g1
  · exact lawBackPlan_big1 A n c xs s B m d bss w hA hx hn hB hy hm g0 (by omega)
  · exact lawBackPlan_small A n c xs s B m d bss w hA hx hn hB hy hm g0 g1
end Go.Proofs.Ytionmcgaicijkaa
