/-
  What is proved: contracts of MakePuzzle, of the model and of the program. Conditions: the times are read as they lie.
  What is proved: the law FnExactMakePuzzle returns true at every argument, and leaves all that was there as it was. Conditions: the arguments are read as they lie.
-/
import Derived.Deep.RegionHeld3
import Derived.Test.YtkocompjjogciaaJ1MakePuzzle
set_option linter.unusedSimpArgs false
set_option linter.unusedVariables false
namespace Go.Proofs.Ytkocompjjogciaa
open Go.RowKit

set_option maxHeartbeats 3200000 in
set_option maxRecDepth 100000 in
set_option linter.unusedVariables false in
set_option linter.unusedSimpArgs false in
theorem specMake_no (A : Option Addr) (n c : Nat) (xs : List Int) (k s : Int) (w : World) (hA : Holds w A (nums xs)) (hx : xs.length = n) (hn : n ≤ 1048576) (hno : mkOk xs k s = false) :
    Calls Try.prog 64 #[.slice A n c, .int .i64 k, .int .i64 s] w (PuzPost 0 [] false w) := by
  have HX := Lib.hid hx
  have HA1 := Lib.hid (hA.alloc (.cells #[.int .i64 0, .slice none 0 0] 83))
  have HQ := Lib.hid (Whole.fresh w 83 #[.int .i64 0, .slice none 0 0])
  have HT := Lib.hid (below1 w (.cells #[.int .i64 0, .slice none 0 0] 83))
  cases hh : hidI xs
  · have HH := Lib.hid hh
    clear hh hx hno hA
    go_enter Try.func64, Try.ntmps64
    go_wp2_with fail
    refine (pzHidden_any A n c xs _ HA1.out HX.out hn).mono ?_
    rintro e w1 ⟨rfl, q, hw1⟩
    rw [HH.out]
    have ht : Below w.heap.size w w1 := by rw [hw1]; exact below_draws HT.out q
    have hg : Whole w1 w.heap.size 83 #[.int .i64 0, .slice none 0 0] := by rw [hw1]; exact HQ.out.below (below_draws (Below.refl _ _) q)
    have hgl := hg.lt
    obtain ⟨r0, r1, f0, f1⟩ := hg.two
    clear hw1 hg
    go_wp2
    refine bodyPost_ret (v := .tuple #[.agg #[.int .i64 0, .slice none 0 0], .bool false]) (by simp [results, Try.results64, go_sem, r0, r1]) rfl ⟨none, 0, by rfl, .inl rfl, ?_⟩
    exact below_set (below_set ht (by omega)) (by omega)
  have HH := Lib.hid hh
  cases hk : within k 0 6
  · have HK := Lib.hid hk
    clear hh hk hx hno hA
    go_enter Try.func64, Try.ntmps64
    go_wp2_with fail
    refine (pzHidden_any A n c xs _ HA1.out HX.out hn).mono ?_
    rintro e w1 ⟨rfl, q, hw1⟩
    rw [HH.out]
    have ht : Below w.heap.size w w1 := by rw [hw1]; exact below_draws HT.out q
    have hg : Whole w1 w.heap.size 83 #[.int .i64 0, .slice none 0 0] := by rw [hw1]; exact HQ.out.below (below_draws (Below.refl _ _) q)
    have hgl := hg.lt
    obtain ⟨r0, r1, f0, f1⟩ := hg.two
    clear hw1 hg
    go_wp2_with fail
    refine (l1In_any _ _ _ _).mono ?_
    rintro e w' ⟨rfl, rfl⟩
    rw [HK.out]
    go_wp2
    refine bodyPost_ret (v := .tuple #[.agg #[.int .i64 0, .slice none 0 0], .bool false]) (by simp [results, Try.results64, go_sem, r0, r1]) rfl ⟨none, 0, by rfl, .inl rfl, ?_⟩
    exact below_set (below_set ht (by omega)) (by omega)
  have HK := Lib.hid hk
  have HS : Hid (within s 0 9999 = false) := by show _ = _; simpa [mkOk, hh, hk] using hno
  clear hh hk hx hno hA
  go_enter Try.func64, Try.ntmps64
  go_wp2_with fail
  refine (pzHidden_any A n c xs _ HA1.out HX.out hn).mono ?_
  rintro e w1 ⟨rfl, q, hw1⟩
  rw [HH.out]
  have ht : Below w.heap.size w w1 := by rw [hw1]; exact below_draws HT.out q
  have hg : Whole w1 w.heap.size 83 #[.int .i64 0, .slice none 0 0] := by rw [hw1]; exact HQ.out.below (below_draws (Below.refl _ _) q)
  have hgl := hg.lt
  obtain ⟨r0, r1, f0, f1⟩ := hg.two
  clear hw1 hg
  go_wp2_with fail
  refine (l1In_any _ _ _ _).mono ?_
  rintro e w' ⟨rfl, rfl⟩
  rw [HK.out]
  go_wp2_with fail
  refine (l1In_any _ _ _ _).mono ?_
  rintro e w' ⟨rfl, rfl⟩
  rw [HS.out]
  go_wp2
  refine bodyPost_ret (v := .tuple #[.agg #[.int .i64 0, .slice none 0 0], .bool false]) (by simp [results, Try.results64, go_sem, r0, r1]) rfl ⟨none, 0, by rfl, .inl rfl, ?_⟩
  exact below_set (below_set ht (by omega)) (by omega)

set_option maxHeartbeats 3200000 in
set_option maxRecDepth 100000 in
set_option linter.unusedVariables false in
set_option linter.unusedSimpArgs false in
theorem implMake_no (A : Option Addr) (n c : Nat) (xs : List Int) (k s : Int) (w : World) (hA : Holds w A (nums xs)) (hx : xs.length = n) (hn : n ≤ 1048576) (hno : mkOk xs k s = false) :
    Calls Try.prog 65 #[.slice A n c, .int .i64 k, .int .i64 s] w (PuzPost 0 [] false w) := by
  have HX := Lib.hid hx
  have HA1 := Lib.hid (hA.alloc (.cells #[.int .i64 0, .slice none 0 0] 83))
  have HQ := Lib.hid (Whole.fresh w 83 #[.int .i64 0, .slice none 0 0])
  have HT := Lib.hid (below1 w (.cells #[.int .i64 0, .slice none 0 0] 83))
  cases hh : hidI xs
  · have HH := Lib.hid hh
    clear hh hx hno hA
    go_enter Try.func65, Try.ntmps65
    go_wp2_with fail
    refine (isHidden_any A n c xs _ HA1.out HX.out hn).mono ?_
    rintro e w1 ⟨rfl, q, hw1⟩
    rw [HH.out]
    have ht : Below w.heap.size w w1 := by rw [hw1]; exact below_draws HT.out q
    have hg : Whole w1 w.heap.size 83 #[.int .i64 0, .slice none 0 0] := by rw [hw1]; exact HQ.out.below (below_draws (Below.refl _ _) q)
    have hgl := hg.lt
    obtain ⟨r0, r1, f0, f1⟩ := hg.two
    clear hw1 hg
    go_wp2
    refine bodyPost_ret (v := .tuple #[.agg #[.int .i64 0, .slice none 0 0], .bool false]) (by simp [results, Try.results65, go_sem, r0, r1]) rfl ⟨none, 0, by rfl, .inl rfl, ?_⟩
    exact below_set (below_set ht (by omega)) (by omega)
  have HH := Lib.hid hh
  have hor : k < 0 ∨ (0 ≤ k ∧ 6 < k) ∨ ((0 ≤ k ∧ k ≤ 6) ∧ s < 0) ∨ ((0 ≤ k ∧ k ≤ 6) ∧ 0 ≤ s ∧ 9999 < s) := by
    have h : ¬ ((0 ≤ k ∧ k ≤ 6) ∧ (0 ≤ s ∧ s ≤ 9999)) := fun h => by
      have : mkOk xs k s = true := by simp [mkOk, hh, within_iff, h]
      rw [this] at hno; cases hno
    omega
  clear hh hx hno hA
  rcases hor with g1 | ⟨g0, g1⟩ | ⟨⟨g0, g1⟩, g2⟩ | ⟨⟨g0, g1⟩, g2, g3⟩
  · go_enter Try.func65, Try.ntmps65
    go_wp2_with fail
    refine (isHidden_any A n c xs _ HA1.out HX.out hn).mono ?_
    rintro e w1 ⟨rfl, q, hw1⟩
    rw [HH.out]
    have ht : Below w.heap.size w w1 := by rw [hw1]; exact below_draws HT.out q
    have hg : Whole w1 w.heap.size 83 #[.int .i64 0, .slice none 0 0] := by rw [hw1]; exact HQ.out.below (below_draws (Below.refl _ _) q)
    have hgl := hg.lt
    obtain ⟨r0, r1, f0, f1⟩ := hg.two
    clear hw1 hg
    go_wp2
    refine bodyPost_ret (v := .tuple #[.agg #[.int .i64 0, .slice none 0 0], .bool false]) (by simp [results, Try.results65, go_sem, r0, r1]) rfl ⟨none, 0, by rfl, .inl rfl, ?_⟩
    exact below_set (below_set ht (by omega)) (by omega)
  · go_enter Try.func65, Try.ntmps65
    go_wp2_with fail
    refine (isHidden_any A n c xs _ HA1.out HX.out hn).mono ?_
    rintro e w1 ⟨rfl, q, hw1⟩
    rw [HH.out]
    have ht : Below w.heap.size w w1 := by rw [hw1]; exact below_draws HT.out q
    have hg : Whole w1 w.heap.size 83 #[.int .i64 0, .slice none 0 0] := by rw [hw1]; exact HQ.out.below (below_draws (Below.refl _ _) q)
    have hgl := hg.lt
    obtain ⟨r0, r1, f0, f1⟩ := hg.two
    clear hw1 hg
    go_wp2
    refine bodyPost_ret (v := .tuple #[.agg #[.int .i64 0, .slice none 0 0], .bool false]) (by simp [results, Try.results65, go_sem, r0, r1]) rfl ⟨none, 0, by rfl, .inl rfl, ?_⟩
    exact below_set (below_set ht (by omega)) (by omega)
  · go_enter Try.func65, Try.ntmps65
    go_wp2_with fail
    refine (isHidden_any A n c xs _ HA1.out HX.out hn).mono ?_
    rintro e w1 ⟨rfl, q, hw1⟩
    rw [HH.out]
    have ht : Below w.heap.size w w1 := by rw [hw1]; exact below_draws HT.out q
    have hg : Whole w1 w.heap.size 83 #[.int .i64 0, .slice none 0 0] := by rw [hw1]; exact HQ.out.below (below_draws (Below.refl _ _) q)
    have hgl := hg.lt
    obtain ⟨r0, r1, f0, f1⟩ := hg.two
    clear hw1 hg
    go_wp2
    refine bodyPost_ret (v := .tuple #[.agg #[.int .i64 0, .slice none 0 0], .bool false]) (by simp [results, Try.results65, go_sem, r0, r1]) rfl ⟨none, 0, by rfl, .inl rfl, ?_⟩
    exact below_set (below_set ht (by omega)) (by omega)
  · go_enter Try.func65, Try.ntmps65
    go_wp2_with fail
    refine (isHidden_any A n c xs _ HA1.out HX.out hn).mono ?_
    rintro e w1 ⟨rfl, q, hw1⟩
    rw [HH.out]
    have ht : Below w.heap.size w w1 := by rw [hw1]; exact below_draws HT.out q
    have hg : Whole w1 w.heap.size 83 #[.int .i64 0, .slice none 0 0] := by rw [hw1]; exact HQ.out.below (below_draws (Below.refl _ _) q)
    have hgl := hg.lt
    obtain ⟨r0, r1, f0, f1⟩ := hg.two
    clear hw1 hg
    go_wp2
    refine bodyPost_ret (v := .tuple #[.agg #[.int .i64 0, .slice none 0 0], .bool false]) (by simp [results, Try.results65, go_sem, r0, r1]) rfl ⟨none, 0, by rfl, .inl rfl, ?_⟩
    exact below_set (below_set ht (by omega)) (by omega)

theorem specMake_any (A : Option Addr) (n c : Nat) (xs : List Int) (k s : Int) (w : World) (hA : Holds w A (nums xs)) (hx : xs.length = n) (hn : n ≤ 1048576) :
    Calls Try.prog 64 #[.slice A n c, .int .i64 k, .int .i64 s] w (PuzPost (mkP xs k s) (mkLs xs k s) (mkOk xs k s) w) := by
  cases hok : mkOk xs k s
  · rw [(mk_no hok).1, (mk_no hok).2]
    exact specMake_no A n c xs k s w hA hx hn hok
  · rw [(mk_yes hok).1, (mk_yes hok).2, hx]
    simp only [mkOk, Bool.and_eq_true, within_iff] at hok
    obtain ⟨hh, ⟨h0, h6⟩, hs0, hs9⟩ := hok
    obtain ⟨cN, rfl⟩ := Int.eq_ofNat_of_zero_le h0
    exact specMake_on A n c cN xs s w hA hx hn hh (by omega) hs0 hs9

theorem implMake_any (A : Option Addr) (n c : Nat) (xs : List Int) (k s : Int) (w : World) (hA : Holds w A (nums xs)) (hx : xs.length = n) (hn : n ≤ 1048576) :
    Calls Try.prog 65 #[.slice A n c, .int .i64 k, .int .i64 s] w (PuzPost (mkP xs k s) (mkLs xs k s) (mkOk xs k s) w) := by
  cases hok : mkOk xs k s
  · rw [(mk_no hok).1, (mk_no hok).2]
    exact implMake_no A n c xs k s w hA hx hn hok
  · rw [(mk_yes hok).1, (mk_yes hok).2, hx]
    simp only [mkOk, Bool.and_eq_true, within_iff] at hok
    obtain ⟨hh, ⟨h0, h6⟩, hs0, hs9⟩ := hok
    obtain ⟨cN, rfl⟩ := Int.eq_ofNat_of_zero_le h0
    exact implMake_on A n c cN xs s w hA hx hn hh (by omega) hs0 hs9
end Go.Proofs.Ytkocompjjogciaa

namespace Go.Proofs.Ytkocompjjogciaa
open Go.RowKit

set_option maxHeartbeats 800000 in
set_option linter.unusedVariables false in
theorem lawMakePuzzle_big0 (A0 : Option Addr) (n0 c0 : Nat) (x0 : List Int) (k0 : Int) (k1 : Int) (w : World) (h0 : Holds w A0 (nums x0)) (hx0 : x0.length = n0) (hn0 : n0 ≤ 9223372036854775807)  (hbig : (1048576 : Int) < n0) :
    Calls Try.prog 14 #[.slice A0 n0 c0, .int .i64 k0, .int .i64 k1] w fun e w' => e = .returned (.bool true) ∧ Below w.heap.size w w' := by
  have ht := Below.refl w.heap.size w
  have HX0 := Lib.hid hx0
  clear hx0
  go_enter Try.func14, Try.ntmps14
  go_wp2
  go_ret
  exact ⟨rfl, ht⟩

set_option maxHeartbeats 12800000 in
set_option maxRecDepth 100000 in
set_option linter.unusedSimpArgs false in
set_option linter.unusedVariables false in
theorem lawMakePuzzle_small (A0 : Option Addr) (n0 c0 : Nat) (x0 : List Int) (k0 : Int) (k1 : Int) (w : World) (h0 : Holds w A0 (nums x0)) (hx0 : x0.length = n0) (hn0 : n0 ≤ 9223372036854775807) (g0 : (n0 : Int) ≤ 1048576) :
    Calls Try.prog 14 #[.slice A0 n0 c0, .int .i64 k0, .int .i64 k1] w fun e w' => e = .returned (.bool true) ∧ Below w.heap.size w w' := by
  have ht := Below.refl w.heap.size w
  have HX0 := Lib.hid hx0
  clear hx0
  have hlen : ((mkLs x0 k0 k1)).length ≤ 1048576 := (mkLs_le x0 k0 k1)
  go_enter Try.func14, Try.ntmps14
  -- region 3
  go_wp2_with fail
  refine (toIntS_own A0 n0 c0 x0 _ (by exact h0.below ht) HX0.out (by omega)).mono ?_
  rintro e v1 ⟨gp0, rfl, hgp0, hwp0, hb⟩
  have hz1 : w.heap.size ≤ v1.heap.size := by have := hb.size; simpa using this
  replace ht := below_then ht hb ht.size
  have hp0 := Fresh.of_whole (lo := w.heap.size) (hi := v1.heap.size) hwp0 (by simpa using hgp0) hwp0.lt
  clear hgp0 hwp0
  clear hb
  go_wp2_with fail
  refine (specMake_any _ n0 _ x0 k0 k1 _ (by exact hp0.holds) HX0.out (by omega)).mono ?_
  rintro e v2 ⟨B0, q0, rfl, hF0, hb⟩
  have hz2 : v1.heap.size ≤ v2.heap.size := by have := hb.size; simpa using this
  replace ht := below_then ht hb ht.size
  replace hp0 := hp0.below hb
  replace hF0 := hF0.more (lo' := v1.heap.size) (hi' := v2.heap.size) (by simp) (Nat.le_refl _)
  have hR0 := Whole.fresh v2 83 #[.int .i64 (mkP x0 k0 k1), .slice B0 ((mkLs x0 k0 k1)).length q0]
  replace ht := ht.alloc ht.size (.cells #[.int .i64 (mkP x0 k0 k1), .slice B0 ((mkLs x0 k0 k1)).length q0] 83)
  replace hp0 := hp0.alloc (.cells #[.int .i64 (mkP x0 k0 k1), .slice B0 ((mkLs x0 k0 k1)).length q0] 83)
  replace hF0 := hF0.alloc (.cells #[.int .i64 (mkP x0 k0 k1), .slice B0 ((mkLs x0 k0 k1)).length q0] 83)
  clear hb
  clear hp0
  obtain ⟨hR0_0, hR0_1⟩ := hR0.cells2
  have hR0_l := hR0.lt
  -- region 4
  go_wp2_with fail
  refine (toIntS_own A0 n0 c0 x0 _ (by exact h0.below ht) HX0.out (by omega)).mono ?_
  rintro e v3 ⟨gx0, rfl, hgx0, hwx0, hb⟩
  have hz3 : v2.heap.size + 1 ≤ v3.heap.size := by have := hb.size; simpa using this
  replace ht := below_then ht hb ht.size
  replace hF0 := hF0.below hb
  replace hR0 := hR0.below hb
  have hx0 := Fresh.of_whole (lo := v2.heap.size + 1) (hi := v3.heap.size) hwx0 (by simpa using hgx0) hwx0.lt
  clear hgx0 hwx0
  clear hb
  clear hR0_0 hR0_1 hR0_l
  obtain ⟨hR0_0, hR0_1⟩ := hR0.cells2
  have hR0_l := hR0.lt
  -- region 5
  go_wp2_with fail
  refine (implMake_any _ n0 _ x0 k0 k1 _ (by exact hx0.holds) HX0.out (by omega)).mono ?_
  rintro e v4 ⟨B1, q1, rfl, hF1, hb⟩
  have hz4 : v3.heap.size ≤ v4.heap.size := by have := hb.size; simpa using this
  replace ht := below_then ht hb ht.size
  replace hF0 := hF0.below hb
  replace hR0 := hR0.below hb
  replace hx0 := hx0.below hb
  replace hF1 := hF1.more (lo' := v3.heap.size) (hi' := v4.heap.size) (by simp) (Nat.le_refl _)
  have hR1 := Whole.fresh v4 83 #[.int .i64 (mkP x0 k0 k1), .slice B1 ((mkLs x0 k0 k1)).length q1]
  replace ht := ht.alloc ht.size (.cells #[.int .i64 (mkP x0 k0 k1), .slice B1 ((mkLs x0 k0 k1)).length q1] 83)
  replace hF0 := hF0.alloc (.cells #[.int .i64 (mkP x0 k0 k1), .slice B1 ((mkLs x0 k0 k1)).length q1] 83)
  replace hR0 := hR0.alloc (.cells #[.int .i64 (mkP x0 k0 k1), .slice B1 ((mkLs x0 k0 k1)).length q1] 83)
  replace hx0 := hx0.alloc (.cells #[.int .i64 (mkP x0 k0 k1), .slice B1 ((mkLs x0 k0 k1)).length q1] 83)
  replace hF1 := hF1.alloc (.cells #[.int .i64 (mkP x0 k0 k1), .slice B1 ((mkLs x0 k0 k1)).length q1] 83)
  clear hb
  clear hR0_0 hR0_1 hR0_l
  obtain ⟨hR0_0, hR0_1⟩ := hR0.cells2
  have hR0_l := hR0.lt
  obtain ⟨hR1_0, hR1_1⟩ := hR1.cells2
  have hR1_l := hR1.lt
  -- region 6
  go_wp2_with fail
  refine (eqPuzzle_yes B1 B0 ((mkLs x0 k0 k1)).length q1 q0 ((mkLs x0 k0 k1)) (mkP x0 k0 k1) _ (by exact hF1.holds) (by exact hF0.holds) rfl (by omega)).mono ?_
  rintro e v5 ⟨rfl, hb⟩
  have hz5 : v4.heap.size + 1 ≤ v5.heap.size := by have := hb.size; simpa using this
  replace ht := below_then ht hb ht.size
  replace hF0 := hF0.below hb
  replace hR0 := hR0.below hb
  replace hx0 := hx0.below hb
  replace hF1 := hF1.below hb
  replace hR1 := hR1.below hb
  clear hb
  clear hR0_0 hR0_1 hR0_l hR1_0 hR1_1 hR1_l
  obtain ⟨hR0_0, hR0_1⟩ := hR0.cells2
  have hR0_l := hR0.lt
  obtain ⟨hR1_0, hR1_1⟩ := hR1.cells2
  have hR1_l := hR1.lt
  -- region 8
  go_wp2_with fail
  refine (toIntS_own A0 n0 c0 x0 _ (by exact h0.below ht) HX0.out (by omega)).mono ?_
  rintro e v6 ⟨gy0, rfl, hgy0, hwy0, hb⟩
  have hz6 : v5.heap.size ≤ v6.heap.size := by have := hb.size; simpa using this
  replace ht := below_then ht hb ht.size
  replace hF0 := hF0.below hb
  replace hR0 := hR0.below hb
  replace hx0 := hx0.below hb
  replace hF1 := hF1.below hb
  replace hR1 := hR1.below hb
  have hy0 := Fresh.of_whole (lo := v5.heap.size) (hi := v6.heap.size) hwy0 (by simpa using hgy0) hwy0.lt
  clear hgy0 hwy0
  clear hb
  clear hR0_0 hR0_1 hR0_l hR1_0 hR1_1 hR1_l
  obtain ⟨hR0_0, hR0_1⟩ := hR0.cells2
  have hR0_l := hR0.lt
  obtain ⟨hR1_0, hR1_1⟩ := hR1.cells2
  have hR1_l := hR1.lt
  go_wp2_with fail
  refine (eqIntS_yes _ _ n0 _ _ x0 _ (by exact hx0.holds) (by exact hy0.holds) HX0.out (by omega)).mono ?_
  rintro e v7 ⟨rfl, hb⟩
  have hz7 : v6.heap.size ≤ v7.heap.size := by have := hb.size; simpa using this
  replace ht := below_then ht hb ht.size
  replace hF0 := hF0.below hb
  replace hR0 := hR0.below hb
  replace hx0 := hx0.below hb
  replace hF1 := hF1.below hb
  replace hR1 := hR1.below hb
  replace hy0 := hy0.below hb
  clear hb
  clear hy0
  clear hR0_0 hR0_1 hR0_l hR1_0 hR1_1 hR1_l
  obtain ⟨hR0_0, hR0_1⟩ := hR0.cells2
  have hR0_l := hR0.lt
  obtain ⟨hR1_0, hR1_1⟩ := hR1.cells2
  have hR1_l := hR1.lt
  -- region 11
  go_wp2_with fail
  refine (markIntS_any (some ⟨gx0, 0, none⟩) n0 n0 _ _ _ (1) _ hx0 (by rw [nums_len]; exact HX0.out) (by omega) (by omega) (by omega)).mono ?_
  rintro e v8 ⟨rfl, hs, -⟩
  have hsz := ht.size
  replace ht := hs.below ht (by omega) hsz
  replace hF0 := hs.fresh hF0 (by omega)
  replace hR0 := hs.whole hR0 (by omega)
  replace hF1 := hs.fresh hF1 (by omega)
  replace hR1 := hs.whole hR1 (by omega)
  clear hs hsz hx0
  have hk_1 : (0 : Int) ≤ 1 + (n0 : Int) := by omega
  clear hR0_0 hR0_1 hR0_l hR1_0 hR1_1 hR1_l
  obtain ⟨hR0_0, hR0_1⟩ := hR0.cells2
  have hR0_l := hR0.lt
  obtain ⟨hR1_0, hR1_1⟩ := hR1.cells2
  have hR1_l := hR1.lt
  -- region 12
  go_wp2_with fail
  refine (eqPuzzle_yes B1 B0 ((mkLs x0 k0 k1)).length q1 q0 ((mkLs x0 k0 k1)) (mkP x0 k0 k1) _ (by exact hF1.holds) (by exact hF0.holds) rfl (by omega)).mono ?_
  rintro e v9 ⟨rfl, hb⟩
  have hz9 : v8.heap.size ≤ v9.heap.size := by have := hb.size; simpa using this
  replace ht := below_then ht hb ht.size
  replace hF0 := hF0.below hb
  replace hR0 := hR0.below hb
  replace hF1 := hF1.below hb
  replace hR1 := hR1.below hb
  clear hb
  clear hR0_0 hR0_1 hR0_l hR1_0 hR1_1 hR1_l
  obtain ⟨hR0_0, hR0_1⟩ := hR0.cells2
  have hR0_l := hR0.lt
  obtain ⟨hR1_0, hR1_1⟩ := hR1.cells2
  have hR1_l := hR1.lt
  -- region 15
  go_wp2_with fail
  refine (markPuzzle_any (mkP x0 k0 k1) B1 ((mkLs x0 k0 k1)).length q1 _ _ ((mkLs x0 k0 k1)) 1 _ hF1 rfl (by omega) (by omega) hlen).mono ?_
  rintro e v10 ⟨rfl, hs, hM⟩
  have hsz := ht.size
  replace ht := hs.below ht (by omega) hsz
  replace hF0 := hs.fresh hF0 (by omega)
  replace hR0 := hs.whole hR0 (by omega)
  replace hR1 := hs.whole hR1 (by omega)
  clear hs hF1 hsz
  clear hR0_0 hR0_1 hR0_l hR1_0 hR1_1 hR1_l
  obtain ⟨hR0_0, hR0_1⟩ := hR0.cells2
  have hR0_l := hR0.lt
  obtain ⟨hR1_0, hR1_1⟩ := hR1.cells2
  have hR1_l := hR1.lt
  -- region 17
  go_wp2_with fail
  refine (heldPuzzle_any B1 ((mkLs x0 k0 k1)).length q1 (mkP x0 k0 k1) 1 _ (by exact hM.holds) (by omega) (by omega) hlen).mono ?_
  rintro e v11 ⟨rfl, hb⟩
  have hz11 : v10.heap.size ≤ v11.heap.size := by have := hb.size; simpa using this
  replace ht := below_then ht hb ht.size
  replace hF0 := hF0.below hb
  replace hR0 := hR0.below hb
  replace hR1 := hR1.below hb
  replace hM := hM.below hb
  clear hb
  have hm0 : (0 : Int) ≤ 1 + ((((mkLs x0 k0 k1)).length * 3 : Nat) : Int) := by omega
  clear hR0_0 hR0_1 hR0_l hR1_0 hR1_1 hR1_l
  obtain ⟨hR0_0, hR0_1⟩ := hR0.cells2
  have hR0_l := hR0.lt
  obtain ⟨hR1_0, hR1_1⟩ := hR1.cells2
  have hR1_l := hR1.lt
  -- region 22
  go_wp2_with fail
  refine (toIntS_own A0 n0 c0 x0 _ (by exact h0.below ht) HX0.out (by omega)).mono ?_
  rintro e v12 ⟨gr0, rfl, hgr0, hwr0, hb⟩
  have hz12 : v11.heap.size ≤ v12.heap.size := by have := hb.size; simpa using this
  replace ht := below_then ht hb ht.size
  replace hF0 := hF0.below hb
  replace hR0 := hR0.below hb
  replace hR1 := hR1.below hb
  replace hM := hM.below hb
  have hr0 := Fresh.of_whole (lo := v11.heap.size) (hi := v12.heap.size) hwr0 (by simpa using hgr0) hwr0.lt
  clear hgr0 hwr0
  clear hb
  clear hR0_0 hR0_1 hR0_l hR1_0 hR1_1 hR1_l
  obtain ⟨hR0_0, hR0_1⟩ := hR0.cells2
  have hR0_l := hR0.lt
  obtain ⟨hR1_0, hR1_1⟩ := hR1.cells2
  have hR1_l := hR1.lt
  go_wp2_with fail
  refine (implMake_any _ n0 _ x0 k0 k1 _ (by exact hr0.holds) HX0.out (by omega)).mono ?_
  rintro e v13 ⟨B2, q2, rfl, hF2, hb⟩
  have hz13 : v12.heap.size ≤ v13.heap.size := by have := hb.size; simpa using this
  replace ht := below_then ht hb ht.size
  replace hF0 := hF0.below hb
  replace hR0 := hR0.below hb
  replace hR1 := hR1.below hb
  replace hM := hM.below hb
  replace hr0 := hr0.below hb
  replace hF2 := hF2.more (lo' := v12.heap.size) (hi' := v13.heap.size) (by simp) (Nat.le_refl _)
  have hR2 := Whole.fresh v13 83 #[.int .i64 (mkP x0 k0 k1), .slice B2 ((mkLs x0 k0 k1)).length q2]
  replace ht := ht.alloc ht.size (.cells #[.int .i64 (mkP x0 k0 k1), .slice B2 ((mkLs x0 k0 k1)).length q2] 83)
  replace hF0 := hF0.alloc (.cells #[.int .i64 (mkP x0 k0 k1), .slice B2 ((mkLs x0 k0 k1)).length q2] 83)
  replace hR0 := hR0.alloc (.cells #[.int .i64 (mkP x0 k0 k1), .slice B2 ((mkLs x0 k0 k1)).length q2] 83)
  replace hR1 := hR1.alloc (.cells #[.int .i64 (mkP x0 k0 k1), .slice B2 ((mkLs x0 k0 k1)).length q2] 83)
  replace hM := hM.alloc (.cells #[.int .i64 (mkP x0 k0 k1), .slice B2 ((mkLs x0 k0 k1)).length q2] 83)
  replace hr0 := hr0.alloc (.cells #[.int .i64 (mkP x0 k0 k1), .slice B2 ((mkLs x0 k0 k1)).length q2] 83)
  replace hF2 := hF2.alloc (.cells #[.int .i64 (mkP x0 k0 k1), .slice B2 ((mkLs x0 k0 k1)).length q2] 83)
  clear hb
  clear hr0
  clear hR0_0 hR0_1 hR0_l hR1_0 hR1_1 hR1_l
  obtain ⟨hR0_0, hR0_1⟩ := hR0.cells2
  have hR0_l := hR0.lt
  obtain ⟨hR1_0, hR1_1⟩ := hR1.cells2
  have hR1_l := hR1.lt
  obtain ⟨hR2_0, hR2_1⟩ := hR2.cells2
  have hR2_l := hR2.lt
  -- region 23
  go_wp2_with fail
  refine (eqPuzzle_yes B2 B0 ((mkLs x0 k0 k1)).length q2 q0 ((mkLs x0 k0 k1)) (mkP x0 k0 k1) _ (by exact hF2.holds) (by exact hF0.holds) rfl (by omega)).mono ?_
  rintro e v14 ⟨rfl, hb⟩
  have hz14 : v13.heap.size + 1 ≤ v14.heap.size := by have := hb.size; simpa using this
  replace ht := below_then ht hb ht.size
  replace hF0 := hF0.below hb
  replace hR0 := hR0.below hb
  replace hR1 := hR1.below hb
  replace hM := hM.below hb
  replace hF2 := hF2.below hb
  replace hR2 := hR2.below hb
  clear hb
  clear hR0_0 hR0_1 hR0_l hR1_0 hR1_1 hR1_l hR2_0 hR2_1 hR2_l
  obtain ⟨hR0_0, hR0_1⟩ := hR0.cells2
  have hR0_l := hR0.lt
  obtain ⟨hR1_0, hR1_1⟩ := hR1.cells2
  have hR1_l := hR1.lt
  obtain ⟨hR2_0, hR2_1⟩ := hR2.cells2
  have hR2_l := hR2.lt
  -- region 26
  go_wp2_with fail
  refine (heldPuzzle_any B1 ((mkLs x0 k0 k1)).length q1 (mkP x0 k0 k1) 1 _ (by exact hM.holds) (by omega) (by omega) hlen).mono ?_
  rintro e v15 ⟨rfl, hb⟩
  have hz15 : v14.heap.size ≤ v15.heap.size := by have := hb.size; simpa using this
  replace ht := below_then ht hb ht.size
  replace hF0 := hF0.below hb
  replace hR0 := hR0.below hb
  replace hR1 := hR1.below hb
  replace hM := hM.below hb
  replace hF2 := hF2.below hb
  replace hR2 := hR2.below hb
  clear hb
  clear hR0_0 hR0_1 hR0_l hR1_0 hR1_1 hR1_l hR2_0 hR2_1 hR2_l
  obtain ⟨hR0_0, hR0_1⟩ := hR0.cells2
  have hR0_l := hR0.lt
  obtain ⟨hR1_0, hR1_1⟩ := hR1.cells2
  have hR1_l := hR1.lt
  obtain ⟨hR2_0, hR2_1⟩ := hR2.cells2
  have hR2_l := hR2.lt
  go_wp2
  go_ret
  exact ⟨rfl, ht⟩

theorem lawMakePuzzle_all (A0 : Option Addr) (n0 c0 : Nat) (x0 : List Int) (k0 : Int) (k1 : Int) (w : World) (h0 : Holds w A0 (nums x0)) (hx0 : x0.length = n0) (hn0 : n0 ≤ 9223372036854775807) (_hk0 : -9223372036854775808 ≤ k0 ∧ k0 ≤ 9223372036854775807) (_hk1 : -9223372036854775808 ≤ k1 ∧ k1 ≤ 9223372036854775807) :
    Calls Try.prog 14 #[.slice A0 n0 c0, .int .i64 k0, .int .i64 k1] w fun e w' => e = .returned (.bool true) ∧ Below w.heap.size w w' := by
  rcases (inferInstance : Decidable ((n0 : Int) ≤ 1048576)) with g0 | g0
  · exact lawMakePuzzle_big0 A0 n0 c0 x0 k0 k1 w h0 hx0 hn0  (by omega)
  exact lawMakePuzzle_small A0 n0 c0 x0 k0 k1 w h0 hx0 hn0 g0
end Go.Proofs.Ytkocompjjogciaa
