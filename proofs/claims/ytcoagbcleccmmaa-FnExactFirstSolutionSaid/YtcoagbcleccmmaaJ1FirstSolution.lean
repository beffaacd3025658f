/-
  What is proved: contracts of the laws' own marks of clues and puzzles. Conditions: what is marked is a row of the call's own; counts are small.
  What is proved: what Solutions hands back, as its law asks for it: lists of the call's own, few and small. Conditions: the clues are read as they lie.
  What is proved: the law FnExactFirstSolution returns true at every argument, and leaves all that was there as it was. Conditions: the arguments are read as they lie.
-/
import Derived.Deep.RegionHeld3
import Derived.Test.YtcoagbcleccmmaaJ1CountSolutions
set_option linter.unusedSimpArgs false
set_option linter.unusedVariables false
namespace Go.Proofs.Ytcoagbcleccmmaa
open Go.RowKit

set_option maxHeartbeats 1600000 in
theorem markClueS_any (A : Option Addr) (n c lo hi : Nat) (cs : List Cl) (q : Int) (w : World) (hf : Fresh w lo hi 25 A (clsC cs)) (hx : cs.length = n) (h0 : 0 ≤ q) (h1 : q ≤ 2305843009213693952) (hn : n ≤ 1048576) :
    Calls Try.prog 68 #[.slice A n c, .int .i64 q] w fun e w' => e = .returned (.int .i64 (q + ((n * 3 : Nat) : Int))) ∧ Span lo hi w w' ∧ Fresh w' lo hi 25 A (nums (marksI q (n * 3))) := by
  subst hx
  have hlc := clsC_len cs
  generalize clsC cs = xs at hf hlc
  generalize cs.length = n at *
  rcases hf with rfl | ⟨g, cells, rfl, hlo, hhi, hw, hle, htk⟩
  · have hn0 : n = 0 := by simp at hlc; omega
    subst hn0
    go_enter Try.func68, Try.ntmps68
    go_wp2
    refine wp_loop_rounds 1 ?_
    rw [rounds_succ]
    go_wp2
    go_ret
    exact ⟨ret_of (by simp), Span.refl _ _ _, .inl (by simp [marksI, nums])⟩
  · have HT := Lib.hid htk
    have HLC := Lib.hid hlc
    have hsz : n * 3 ≤ cells.size := by omega
    have HSZ := Lib.hid hsz
    clear htk hlc hle hsz
    have hm0 : Whole w g 25 (marked (fun i : Nat => .int .i64 (q + (i : Int))) cells (0 * 3)) := by rw [Nat.zero_mul, marked_zero]; exact hw
    have hgl := hw.lt
    go_enter Try.func68, Try.ntmps68
    go_wp2
    go_loopw [1, 5] (fun v i wr => ∃ k : Nat, k ≤ n ∧ i = .int .i64 k ∧ v = .int .i64 (q + ((k * 3 : Nat) : Int)) ∧ Whole wr g 25 (marked (fun i : Nat => .int .i64 (q + (i : Int))) cells (k * 3)) ∧ Span lo hi w wr) (fun _ i _ => n - (intOf i).toNat)
    case atStart => exact ⟨0, Nat.zero_le _, rfl, by simp, hm0, Span.refl _ _ _⟩
    case round =>
      obtain ⟨k, hk, rfl, rfl, hm, hs⟩ := hrel
      clear hm0 hw
      by_cases hlt : k < n
      · have hs3 := HSZ.out
        have hks : k * 3 + 2 < cells.size := by omega
        have h00 : (marked (fun i : Nat => .int .i64 (q + (i : Int))) cells (k * 3)).size = cells.size := by simp [marked]; omega
        obtain ⟨u0, hu0⟩ : ∃ u, (marked (fun i : Nat => .int .i64 (q + (i : Int))) cells (k * 3))[k * 3]? = some u := ⟨_, Array.getElem?_eq_getElem (by omega)⟩
        obtain ⟨u1, hu1⟩ : ∃ u, (marked (fun i : Nat => .int .i64 (q + (i : Int))) cells (k * 3))[k * 3 + 1]? = some u := ⟨_, Array.getElem?_eq_getElem (by omega)⟩
        obtain ⟨u2, hu2⟩ : ∃ u, (marked (fun i : Nat => .int .i64 (q + (i : Int))) cells (k * 3))[k * 3 + 2]? = some u := ⟨_, Array.getElem?_eq_getElem (by omega)⟩
        have c0 := (hm.cell (k * 3)).trans hu0
        have c1 := (hm.cell (k * 3 + 1)).trans hu1
        have c2 := (hm.cell (k * 3 + 2)).trans hu2
        have f0 := hm.open_ (k * 3)
        have f1 := hm.open_ (k * 3 + 1)
        have f2 := hm.open_ (k * 3 + 2)
        obtain ⟨z, hz⟩ : ∃ z : Int, z = q + ((k * 3 : Nat) : Int) := ⟨_, rfl⟩
        have hset := ((hm.set_ (k * 3) (.int .i64 (q + ((k * 3 : Nat) : Int)))).set_ (k * 3 + 1) (.int .i64 (q + ((k * 3 + 1 : Nat) : Int)))).set_ (k * 3 + 2) (.int .i64 (q + ((k * 3 + 2 : Nat) : Int)))
        rw [marked_next (fun i : Nat => .int .i64 (q + (i : Int))) cells (k := k * 3) (by omega), marked_next (fun i : Nat => .int .i64 (q + (i : Int))) cells (k := k * 3 + 1) (by omega), marked_next (fun i : Nat => .int .i64 (q + (i : Int))) cells (k := k * 3 + 2) (by omega), show q + ((k * 3 + 1 : Nat) : Int) = z + 1 by omega, show q + ((k * 3 + 2 : Nat) : Int) = z + 1 + 1 by omega, ← hz] at hset
        have HSET := Lib.hid hset
        have HSP := Lib.hid hs
        have hz0 : 0 ≤ z := by omega
        have hz1 : z ≤ 4611686018427387904 := by omega
        have HZ := Lib.hid hz
        rw [← hz]
        have hkl : (k : Int) < n := by omega
        clear hm hs hset hu0 hu1 hu2 h00 hz hs3
        have hw1 : IntKind.i64.wrap (z + 1) = z + 1 := IntWalk.i64_in _ (by omega)
        have hw2 : IntKind.i64.wrap (z + 1 + 1) = z + 1 + 1 := IntWalk.i64_in _ (by omega)
        have hw3 : IntKind.i64.wrap (z + 1 + 1 + 1) = z + 1 + 1 + 1 := IntWalk.i64_in _ (by omega)
        go_wp2
        go_roundw
        case rel => exact ⟨k + 1, by omega, by go_num, congrArg _ (by have := HZ.out; omega), by rw [show (k + 1) * 3 = k * 3 + 2 + 1 by omega]; exact HSET.out, HSP.out.trans ⟨rfl, rfl, rfl, by simp [World.setCell], fun j _ hj => ((Below.heap_setCell _ _ _ _ (by show j ≠ g; omega)).trans (Below.heap_setCell _ _ _ _ (by show j ≠ g; omega))).trans (Below.heap_setCell _ _ _ _ (by show j ≠ g; omega))⟩⟩
        case measure => simp [intOf]; omega
      · have hkn : k = n := by omega
        subst hkn
        go_wp2
        go_ret
        refine ⟨rfl, hs, .inr ⟨g, _, rfl, hlo, hhi, hm, ?_, ?_⟩⟩
        · simp [nums_len, marksI_len, marked]
        · rw [nums_len, marksI_len, marked_take _ _ _]
          simp [nums, marksI]

set_option maxHeartbeats 1600000 in
theorem heldClueS_any (A : Option Addr) (n c : Nat) (q : Int) (w : World) (hA : Holds w A (nums (marksI q (n * 3)))) (h0 : 0 ≤ q) (h1 : q ≤ 2305843009213693952) (hn : n ≤ 1048576) :
    Calls Try.prog 73 #[.slice A n c, .int .i64 q] w fun e w' => e = .returned (.int .i64 (q + ((n * 3 : Nat) : Int))) ∧ w = w' := by
  have hl := marksI_len q (n * 3)
  have HL := Lib.hid hl
  clear hl
  go_enter Try.func73, Try.ntmps73
  go_wp2
  go_loop [1, 5] (fun v i => ∃ k : Nat, k ≤ n ∧ i = .int .i64 k ∧ v = .int .i64 (q + ((k * 3 : Nat) : Int))) (fun _ i => n - (intOf i).toNat)
  case atStart => exact ⟨0, Nat.zero_le _, rfl, by simp⟩
  case round =>
    obtain ⟨k, hk, rfl, rfl⟩ := hrel
    by_cases hlt : k < n
    · obtain ⟨b, o, rfl, hb, hc0⟩ := hA.look (k := k * 3) (by rw [nums_len, HL.out]; omega)
      obtain ⟨b1, o1, hA1, hb1, hc1⟩ := hA.look (k := k * 3 + 1) (by rw [nums_len, HL.out]; omega)
      obtain ⟨b2, o2, hA2, hb2, hc2⟩ := hA.look (k := k * 3 + 2) (by rw [nums_len, HL.out]; omega)
      obtain ⟨rfl, rfl⟩ : b = b1 ∧ o = o1 := by
        simp only [Option.some.injEq, Addr.mk.injEq] at hA1
        exact ⟨hA1.1, hA1.2.1⟩
      obtain ⟨rfl, rfl⟩ : b = b2 ∧ o = o2 := by
        simp only [Option.some.injEq, Addr.mk.injEq] at hA2
        exact ⟨hA2.1, hA2.2.1⟩
      obtain ⟨z, hz⟩ : ∃ z : Int, z = q + ((k * 3 : Nat) : Int) := ⟨_, rfl⟩
      have hv0 : (nums (marksI q (n * 3)))[k * 3]'(by rw [nums_len, HL.out]; omega) = .int .i64 z := by simp [nums, marksI, hz]
      have hv1 : (nums (marksI q (n * 3)))[k * 3 + 1]'(by rw [nums_len, HL.out]; omega) = .int .i64 (z + 1) := by simp [nums, marksI, hz]; omega
      have hv2 : (nums (marksI q (n * 3)))[k * 3 + 2]'(by rw [nums_len, HL.out]; omega) = .int .i64 (z + 1 + 1) := by simp [nums, marksI, hz]; omega
      rw [hv0] at hc0
      rw [hv1] at hc1
      rw [hv2] at hc2
      rw [← Nat.add_assoc] at hc1 hc2
      have hkl : (k : Int) < n := by omega
      have hw1 : IntKind.i64.wrap (z + 1) = z + 1 := IntWalk.i64_in _ (by omega)
      have hw2 : IntKind.i64.wrap (z + 1 + 1) = z + 1 + 1 := IntWalk.i64_in _ (by omega)
      have hw3 : IntKind.i64.wrap (z + 1 + 1 + 1) = z + 1 + 1 + 1 := IntWalk.i64_in _ (by omega)
      have hn0 : (z != z) = false := by simp
      have hn1 : (z + 1 != z + 1) = false := by simp
      have hn2 : (z + 1 + 1 != z + 1 + 1) = false := by simp
      have HZ := Lib.hid hz
      rw [← hz]
      clear hv0 hv1 hv2 hA1 hA2 hb1 hb2 hz
      go_wp2
      go_round
      case rel => exact ⟨k + 1, by omega, by go_num, congrArg _ (by have := HZ.out; omega)⟩
      case measure => simp [intOf]; omega
    · have hkn : k = n := by omega
      subst hkn
      go_wp2
      go_ret
      exact ⟨rfl, rfl⟩

set_option maxHeartbeats 400000 in
theorem markPuzzle_any (s : Int) (A : Option Addr) (n c lo hi : Nat) (cs : List Cl) (q : Int) (w : World) (hf : Fresh w lo hi 25 A (clsC cs)) (hx : cs.length = n) (h0 : 0 ≤ q) (h1 : q ≤ 2305843009213693952) (hn : n ≤ 1048576) :
    Calls Try.prog 34 #[.agg #[.int .i64 s, .slice A n c], .int .i64 q] w fun e w' => e = .returned (.int .i64 (q + ((n * 3 : Nat) : Int))) ∧ Span lo hi w w' ∧ Fresh w' lo hi 25 A (nums (marksI q (n * 3))) := by
  have HX := Lib.hid hx
  clear hx
  go_enter Try.func34, Try.ntmps34
  go_wp2_with fail
  refine (markClueS_any A n c lo hi cs q _ (hf.alloc _) HX.out h0 h1 hn).mono ?_
  rintro e w1 ⟨rfl, hs, hf1⟩
  have HS := Lib.hid hs
  have HF := Lib.hid hf1
  clear hs hf1
  go_wp2
  go_ret
  exact ⟨rfl, (Span.of_below (below1 w _) lo hi).trans HS.out, HF.out⟩

set_option maxHeartbeats 400000 in
theorem heldPuzzle_any (A : Option Addr) (n c : Nat) (s q : Int) (w : World) (hA : Holds w A (nums (marksI q (n * 3)))) (h0 : 0 ≤ q) (h1 : q ≤ 2305843009213693952) (hn : n ≤ 1048576) :
    Calls Try.prog 47 #[.agg #[.int .i64 s, .slice A n c], .int .i64 q] w fun e w' => e = .returned (.int .i64 (q + ((n * 3 : Nat) : Int))) ∧ Below w.heap.size w w' := by
  have hq0 : ¬ (q + ((n * 3 : Nat) : Int) < 0) := by omega
  obtain ⟨z, hz⟩ : ∃ z : Int, z = q + ((n * 3 : Nat) : Int) := ⟨_, rfl⟩
  have H := Lib.hid (heldClueS_any A n c q _ (hA.alloc (.cells #[.int .i64 s, .slice A n c] 35)) h0 h1 hn)
  rw [← hz] at H hq0 ⊢
  clear hA hz
  go_enter Try.func47, Try.ntmps47
  go_wp2_with fail
  refine H.out.mono ?_
  rintro e w1 ⟨rfl, rfl⟩
  go_wp2
  go_ret
  exact ⟨rfl, below1 w _⟩
end Go.Proofs.Ytcoagbcleccmmaa

namespace Go.Proofs.Ytcoagbcleccmmaa
open Go.RowKit

/-- What Solutions hands back, in the law's words. -/
def SolsPost (ls : List (List Int)) (ok : Bool) (w : World) (e : Ending) (w' : World) : Prop :=
  ∃ (A : Option Addr) (n c : Nat) (rs : List RowV), e = .returned (.tuple #[.slice A n c, .bool ok]) ∧ rowNums rs = ls ∧ rs.length = n ∧ FreeGrid w' w.heap.size w'.heap.size A rs ∧ Below w.heap.size w w'
theorem back_of_sol {ls : List (List Int)} {ok : Bool} {w : World} {e : Ending} {w' : World} (h : SolPost ls ok w e w') : SolsPost ls ok w e w' := by
  obtain ⟨A, c, rs, rfl, hr, hh, hb⟩ := h
  exact ⟨A, rs.length, c, rs, rfl, hr, rfl, hh.free, hb⟩
theorem specSolutions_on (p : Int) (A : Option Addr) (n c : Nat) (cs : List Cl) (w : World) (hA : Holds w A (clsC cs)) (hx : cs.length = n) (hn : n ≤ 1048576) :
    Calls Try.prog 31 #[.agg #[.int .i64 p, .slice A n c]] w (SolsPost (solsI p cs) (pzOk p cs) w) :=
  (specSolutions_any p A n c cs w hA hx hn).mono fun _ _ => back_of_sol
theorem implSolutions_on (p : Int) (A : Option Addr) (n c : Nat) (cs : List Cl) (w : World) (hA : Holds w A (clsC cs)) (hx : cs.length = n) (hn : n ≤ 1048576) :
    Calls Try.prog 32 #[.agg #[.int .i64 p, .slice A n c]] w (SolsPost (solsI p cs) (pzOk p cs) w) :=
  (implSolutions_any p A n c cs w hA hx hn).mono fun _ _ => back_of_sol
theorem sols_rows {p : Int} {cs : List Cl} : ∀ l ∈ solsI p cs, l.length ≤ 4 := fun l hl => by
  cases h : pzOk p cs
  · rw [solsI_no h] at hl; cases hl
  · obtain ⟨h1, h4, -⟩ := pzOk_parts h
    obtain ⟨P, rfl⟩ := Int.eq_ofNat_of_zero_le (show 0 ≤ p by omega)
    rw [solsI_yes h, solI_filter (by omega) (by omega)] at hl
    have := (upOk_of (p := P) (m := 6) (by omega) (by omega) (by omega) (by omega)).2.2 l (List.mem_filter.1 hl).1
    omega
theorem sum_le4 : ∀ {ls : List (List Int)}, (∀ l ∈ ls, l.length ≤ 4) → (ls.map List.length).sum ≤ 4 * ls.length
  | [], _ => by simp
  | l :: ls, h => by
    have h1 := h l (by simp)
    have h2 := sum_le4 (ls := ls) fun x hx => h x (List.mem_cons_of_mem _ hx)
    simp only [List.map_cons, List.sum_cons, List.length_cons]
    omega
theorem sols_le (p : Int) (cs : List Cl) : (solsI p cs).length ≤ 1048576 ∧ ((solsI p cs).map List.length).sum ≤ 1048576 := by
  have h1 := solsI_len p cs
  have h2 := sum_le4 (sols_rows (p := p) (cs := cs))
  omega
theorem first_le (p : Int) (cs : List Cl) : ((solsI p cs).headD []).length ≤ 1048576 := by
  cases h : solsI p cs with
  | nil => simp
  | cons l ls =>
    have := sols_rows (p := p) (cs := cs) l (by rw [h]; simp)
    simp only [List.headD_cons]
    omega
/-- The first of the hidden times that match all the clues, and whether there are any. -/
def firstL (p : Int) (cs : List Cl) : List Int := (solsI p cs).headD []
def anyL (p : Int) (cs : List Cl) : Bool := decide (0 < (solsI p cs).length)
theorem firstL_le (p : Int) (cs : List Cl) : (firstL p cs).length ≤ 1048576 := first_le p cs
/-- What FirstSolution hands back, in the law's words. -/
def FirstsPost (l : List Int) (ok : Bool) (w : World) (e : Ending) (w' : World) : Prop :=
  ∃ (B : Option Addr) (q : Nat), e = .returned (.tuple #[.slice B l.length q, .bool ok]) ∧ Fresh w' w.heap.size w'.heap.size 3 B (nums l) ∧ Below w.heap.size w w'
theorem back_of_first {p : Int} {cs : List Cl} {w : World} {e : Ending} {w' : World} (h : FirstPost (solsI p cs) w e w') : FirstsPost (firstL p cs) (anyL p cs) w e w' := h
theorem specFirstSolution_on (p : Int) (A : Option Addr) (n c : Nat) (cs : List Cl) (w : World) (hA : Holds w A (clsC cs)) (hx : cs.length = n) (hn : n ≤ 1048576) :
    Calls Try.prog 39 #[.agg #[.int .i64 p, .slice A n c]] w (FirstsPost (firstL p cs) (anyL p cs) w) :=
  (specFirstSolution_any p A n c cs w hA hx hn).mono fun _ _ => back_of_first
theorem implFirstSolution_on (p : Int) (A : Option Addr) (n c : Nat) (cs : List Cl) (w : World) (hA : Holds w A (clsC cs)) (hx : cs.length = n) (hn : n ≤ 1048576) :
    Calls Try.prog 40 #[.agg #[.int .i64 p, .slice A n c]] w (FirstsPost (firstL p cs) (anyL p cs) w) :=
  (implFirstSolution_any p A n c cs w hA hx hn).mono fun _ _ => back_of_first
end Go.Proofs.Ytcoagbcleccmmaa

namespace Go.Proofs.Ytcoagbcleccmmaa
open Go.RowKit

set_option maxHeartbeats 800000 in
set_option linter.unusedVariables false in
theorem lawFirstSolution_big0 (k0 : Int) (A0 : Option Addr) (n0 c0 : Nat) (x0 : List Cl) (w : World) (h0 : Holds w A0 (clsC x0)) (hx0 : x0.length = n0) (hn0 : n0 ≤ 9223372036854775807)  (hbig : 1048576 - (n0 : Int) < 0) :
    Calls Try.prog 10 #[.agg #[.int .i64 k0, .slice A0 n0 c0]] w fun e w' => e = .returned (.bool true) ∧ Below w.heap.size w w' := by
  have hb0 := (Whole.fresh w 30 #[.int .i64 k0, .slice A0 n0 c0])
  have ht := below1 w (.cells #[.int .i64 k0, .slice A0 n0 c0] 30)
  have HX0 := Lib.hid hx0
  clear hx0
  obtain ⟨hb0_0, hb0_1⟩ := hb0.cells2
  have hb0_l := hb0.lt
  go_enter Try.func10, Try.ntmps10
  go_wp2_with fail
  refine (szPuzzle_any k0 A0 n0 c0 (1048576) _ (by omega) (by omega) (by omega)).mono ?_
  rintro e v1 ⟨rfl, hb⟩
  rw [if_pos (by omega)]
  have hz1 : w.heap.size + 1 ≤ v1.heap.size := by have := hb.size; simpa using this
  replace ht := below_then ht hb ht.size
  replace hb0 := hb0.below hb
  clear hb
  clear hb0_0 hb0_1 hb0_l
  go_wp2
  go_ret
  exact ⟨rfl, ht⟩

set_option maxHeartbeats 12800000 in
set_option maxRecDepth 100000 in
set_option linter.unusedSimpArgs false in
set_option linter.unusedVariables false in
theorem lawFirstSolution_small (k0 : Int) (A0 : Option Addr) (n0 c0 : Nat) (x0 : List Cl) (w : World) (h0 : Holds w A0 (clsC x0)) (hx0 : x0.length = n0) (hn0 : n0 ≤ 9223372036854775807) (g0 : 0 ≤ 1048576 - (n0 : Int)) :
    Calls Try.prog 10 #[.agg #[.int .i64 k0, .slice A0 n0 c0]] w fun e w' => e = .returned (.bool true) ∧ Below w.heap.size w w' := by
  have hb0 := (Whole.fresh w 30 #[.int .i64 k0, .slice A0 n0 c0])
  have ht := below1 w (.cells #[.int .i64 k0, .slice A0 n0 c0] 30)
  have HX0 := Lib.hid hx0
  clear hx0
  have hlen : ((firstL k0 x0)).length ≤ 1048576 := firstL_le _ _
  obtain ⟨hb0_0, hb0_1⟩ := hb0.cells2
  have hb0_l := hb0.lt
  go_enter Try.func10, Try.ntmps10
  -- region 2
  go_wp2_with fail
  refine (szPuzzle_any k0 A0 n0 c0 (1048576) _ (by omega) (by omega) (by omega)).mono ?_
  rintro e v1 ⟨rfl, hb⟩
  rw [if_neg (by omega)]
  have hz1 : w.heap.size + 1 ≤ v1.heap.size := by have := hb.size; simpa using this
  replace ht := below_then ht hb ht.size
  replace hb0 := hb0.below hb
  clear hb
  clear hb0_0 hb0_1 hb0_l
  obtain ⟨hb0_0, hb0_1⟩ := hb0.cells2
  have hb0_l := hb0.lt
  -- region 5
  go_wp2_with fail
  refine (toPuzzle_own k0 A0 n0 c0 x0 _ (by exact h0.below ht) HX0.out (by omega)).mono ?_
  rintro e v2 ⟨gp0, rfl, hgp0, hwp0, hb⟩
  have hz2 : v1.heap.size ≤ v2.heap.size := by have := hb.size; simpa using this
  replace ht := below_then ht hb ht.size
  replace hb0 := hb0.below hb
  have hp0 := Fresh.of_whole (lo := v1.heap.size) (hi := v2.heap.size) hwp0 (by simpa using hgp0) hwp0.lt
  clear hgp0 hwp0
  clear hb
  clear hb0_0 hb0_1 hb0_l
  obtain ⟨hb0_0, hb0_1⟩ := hb0.cells2
  have hb0_l := hb0.lt
  go_wp2_with fail
  refine (specFirstSolution_on k0 _ n0 _ x0 _ (by exact hp0.holds) HX0.out (by omega)).mono ?_
  rintro e v3 ⟨B0, q0, rfl, hF0, hb⟩
  have hz3 : v2.heap.size ≤ v3.heap.size := by have := hb.size; simpa using this
  replace ht := below_then ht hb ht.size
  replace hb0 := hb0.below hb
  replace hp0 := hp0.below hb
  replace hF0 := hF0.more (lo' := v2.heap.size) (hi' := v3.heap.size) (by simp) (Nat.le_refl _)
  clear hb
  clear hp0
  clear hb0_0 hb0_1 hb0_l
  obtain ⟨hb0_0, hb0_1⟩ := hb0.cells2
  have hb0_l := hb0.lt
  -- region 6
  go_wp2_with fail
  refine (toPuzzle_own k0 A0 n0 c0 x0 _ (by exact h0.below ht) HX0.out (by omega)).mono ?_
  rintro e v4 ⟨gx0, rfl, hgx0, hwx0, hb⟩
  have hz4 : v3.heap.size ≤ v4.heap.size := by have := hb.size; simpa using this
  replace ht := below_then ht hb ht.size
  replace hb0 := hb0.below hb
  replace hF0 := hF0.below hb
  have hx0 := Fresh.of_whole (lo := v3.heap.size) (hi := v4.heap.size) hwx0 (by simpa using hgx0) hwx0.lt
  clear hgx0 hwx0
  clear hb
  have hx90 := Whole.fresh v4 35 #[.int .i64 k0, .slice (some ⟨gx0, 0, none⟩) n0 n0]
  replace ht := ht.alloc ht.size (.cells #[.int .i64 k0, .slice (some ⟨gx0, 0, none⟩) n0 n0] 35)
  replace hb0 := hb0.alloc (.cells #[.int .i64 k0, .slice (some ⟨gx0, 0, none⟩) n0 n0] 35)
  replace hF0 := hF0.alloc (.cells #[.int .i64 k0, .slice (some ⟨gx0, 0, none⟩) n0 n0] 35)
  replace hx0 := hx0.alloc (.cells #[.int .i64 k0, .slice (some ⟨gx0, 0, none⟩) n0 n0] 35)
  clear hb0_0 hb0_1 hb0_l
  obtain ⟨hb0_0, hb0_1⟩ := hb0.cells2
  have hb0_l := hb0.lt
  obtain ⟨hx90_0, hx90_1⟩ := hx90.cells2
  have hx90_l := hx90.lt
  -- region 7
  go_wp2_with fail
  refine (implFirstSolution_on k0 _ n0 _ x0 _ (by exact hx0.holds) HX0.out (by omega)).mono ?_
  rintro e v5 ⟨B1, q1, rfl, hF1, hb⟩
  have hz5 : v4.heap.size + 1 ≤ v5.heap.size := by have := hb.size; simpa using this
  replace ht := below_then ht hb ht.size
  replace hb0 := hb0.below hb
  replace hF0 := hF0.below hb
  replace hx0 := hx0.below hb
  replace hx90 := hx90.below hb
  replace hF1 := hF1.more (lo' := v4.heap.size + 1) (hi' := v5.heap.size) (by simp) (Nat.le_refl _)
  clear hb
  clear hb0_0 hb0_1 hb0_l hx90_0 hx90_1 hx90_l
  obtain ⟨hb0_0, hb0_1⟩ := hb0.cells2
  have hb0_l := hb0.lt
  obtain ⟨hx90_0, hx90_1⟩ := hx90.cells2
  have hx90_l := hx90.lt
  -- region 8
  go_wp2_with fail
  refine (eqIntS_yes B1 B0 ((firstL k0 x0)).length q1 q0 ((firstL k0 x0)) _ (by exact hF1.holds) (by exact hF0.holds) rfl (by omega)).mono ?_
  rintro e v6 ⟨rfl, hb⟩
  have hz6 : v5.heap.size ≤ v6.heap.size := by have := hb.size; simpa using this
  replace ht := below_then ht hb ht.size
  replace hb0 := hb0.below hb
  replace hF0 := hF0.below hb
  replace hx0 := hx0.below hb
  replace hx90 := hx90.below hb
  replace hF1 := hF1.below hb
  clear hb
  clear hb0_0 hb0_1 hb0_l hx90_0 hx90_1 hx90_l
  obtain ⟨hb0_0, hb0_1⟩ := hb0.cells2
  have hb0_l := hb0.lt
  obtain ⟨hx90_0, hx90_1⟩ := hx90.cells2
  have hx90_l := hx90.lt
  -- region 10
  clear hb0_0 hb0_1 hb0_l hx90_0 hx90_1 hx90_l
  go_wp2_with fail
  refine wp_region_held_drew (S := (fun w' => w'.cell? ⟨w.heap.size, 0, none⟩ = some (.int .i64 k0) ∧ w'.cell? ⟨w.heap.size, 1, none⟩ = some (.slice A0 n0 c0) ∧ w'.cell? ⟨v4.heap.size, 0, none⟩ = some (.int .i64 k0) ∧ w'.cell? ⟨v4.heap.size, 1, none⟩ = some (.slice (some ⟨gx0, 0, none⟩) n0 n0))) (by kernel_rfl) ⟨hb0.drew.cell 0, hb0.drew.cell 1, hx90.drew.cell 0, hx90.drew.cell 1⟩ (fun hHeld => ?_)
  replace ht := ht.drew
  replace hb0 := hb0.drew
  replace hF0 := hF0.drew
  replace hx0 := hx0.drew
  replace hx90 := hx90.drew
  replace hF1 := hF1.drew
  refine wpAnyH_take (i := 0) (v := ?_) rfl (by kernel_rfl) (by kernel_rfl) (by kernel_rfl) (fun _ _ _ h => h) (Or.inl ⟨rfl, ?_⟩) hHeld ?_
  rotate_left
  · intro w' hS; obtain ⟨s0, s1, s2, s3⟩ := hS; go_simp <;> with_reducible rfl
  simp only [Act.put, List.getElem_toArray, List.getElem_cons_succ, List.getElem_cons_zero, List.setIfInBounds_toArray, List.set_cons_succ, List.set_cons_zero]
  refine wpAnyH_take (i := 1) (v := ?_) rfl (by kernel_rfl) (by kernel_rfl) (by kernel_rfl) (fun _ _ _ h => h) (Or.inl ⟨rfl, ?_⟩) hHeld ?_
  rotate_left
  · intro w' hS; obtain ⟨s0, s1, s2, s3⟩ := hS; go_simp <;> with_reducible rfl
  simp only [Act.put, List.getElem_toArray, List.getElem_cons_succ, List.getElem_cons_zero, List.setIfInBounds_toArray, List.set_cons_succ, List.set_cons_zero]
  refine wpAnyH_ready (rs := [2]) (by kernel_rfl) (by simp) (AllReadyH.cons rfl (fun K hK => ?_) AllReadyH.nil)
  go_simp
  refine (toPuzzle_own k0 A0 n0 c0 x0 _ (by exact h0.below ht) HX0.out (by omega)).mono ?_
  rintro e v7 ⟨gy0, rfl, hgy0, hwy0, hb⟩
  have hz7 : v6.heap.size ≤ v7.heap.size := by have := hb.size; simpa using this
  replace ht := below_then ht hb ht.size
  replace hb0 := hb0.below hb
  replace hF0 := hF0.below hb
  replace hx0 := hx0.below hb
  replace hx90 := hx90.below hb
  replace hF1 := hF1.below hb
  have hy0 := Fresh.of_whole (lo := v6.heap.size) (hi := v7.heap.size) hwy0 (by simpa using hgy0) hwy0.lt
  clear hgy0 hwy0
  clear hb
  refine hK.out _ _ ⟨hb0.cell 0, hb0.cell 1, hx90.cell 0, hx90.cell 1⟩ (fun hHeld => ?_)
  clear hK K
  try simp only [Act.put, List.getElem_toArray, List.getElem_cons_succ, List.getElem_cons_zero, List.setIfInBounds_toArray, List.set_cons_succ, List.set_cons_zero]
  refine wpAnyH_ready (rs := [3]) (by kernel_rfl) (by simp) (AllReadyH.cons rfl (fun K hK => ?_) AllReadyH.nil)
  go_simp
  refine (eqPuzzle_yes _ _ n0 _ _ x0 k0 _ (by exact hx0.holds) (by exact hy0.holds) HX0.out (by omega)).mono ?_
  rintro e v8 ⟨rfl, hb⟩
  have hz8 : v7.heap.size ≤ v8.heap.size := by have := hb.size; simpa using this
  replace ht := below_then ht hb ht.size
  replace hb0 := hb0.below hb
  replace hF0 := hF0.below hb
  replace hx0 := hx0.below hb
  replace hx90 := hx90.below hb
  replace hF1 := hF1.below hb
  replace hy0 := hy0.below hb
  clear hb
  clear hy0
  refine hK.out _ _ ⟨hb0.cell 0, hb0.cell 1, hx90.cell 0, hx90.cell 1⟩ (fun hHeld => ?_)
  clear hK K
  try simp only [Act.put, List.getElem_toArray, List.getElem_cons_succ, List.getElem_cons_zero, List.setIfInBounds_toArray, List.set_cons_succ, List.set_cons_zero]
  refine wpAnyH_take (i := 4) (v := ?_) rfl (by kernel_rfl) (by kernel_rfl) (by kernel_rfl) (fun _ _ _ h => h) (Or.inl ⟨rfl, ?_⟩) hHeld ?_
  rotate_left
  · intro w' hS; obtain ⟨s0, s1, s2, s3⟩ := hS; go_simp <;> with_reducible rfl
  simp only [Act.put, List.getElem_toArray, List.getElem_cons_succ, List.getElem_cons_zero, List.setIfInBounds_toArray, List.set_cons_succ, List.set_cons_zero]
  refine wpAnyH_done (by kernel_rfl) ?_ _
  clear hHeld
  obtain ⟨hb0_0, hb0_1⟩ := hb0.cells2
  have hb0_l := hb0.lt
  obtain ⟨hx90_0, hx90_1⟩ := hx90.cells2
  have hx90_l := hx90.lt
  -- region 13
  go_wp2_with fail
  refine (markPuzzle_any k0 (some ⟨gx0, 0, none⟩) n0 n0 _ _ x0 (1) _ hx0 HX0.out (by omega) (by omega) (by omega)).mono ?_
  rintro e v9 ⟨rfl, hs, -⟩
  have hsz := ht.size
  replace ht := hs.below ht (by omega) hsz
  replace hb0 := hs.whole hb0 (by omega)
  replace hF0 := hs.fresh hF0 (by omega)
  replace hF1 := hs.fresh hF1 (by omega)
  clear hs hsz hx0 hx90
  have hk_1 : (0 : Int) ≤ 1 + ((n0 * 3 : Nat) : Int) := by omega
  clear hb0_0 hb0_1 hb0_l hx90_0 hx90_1 hx90_l
  obtain ⟨hb0_0, hb0_1⟩ := hb0.cells2
  have hb0_l := hb0.lt
  -- region 14
  go_wp2_with fail
  refine (eqIntS_yes B1 B0 ((firstL k0 x0)).length q1 q0 ((firstL k0 x0)) _ (by exact hF1.holds) (by exact hF0.holds) rfl (by omega)).mono ?_
  rintro e v10 ⟨rfl, hb⟩
  have hz10 : v9.heap.size ≤ v10.heap.size := by have := hb.size; simpa using this
  replace ht := below_then ht hb ht.size
  replace hb0 := hb0.below hb
  replace hF0 := hF0.below hb
  replace hF1 := hF1.below hb
  clear hb
  clear hb0_0 hb0_1 hb0_l
  obtain ⟨hb0_0, hb0_1⟩ := hb0.cells2
  have hb0_l := hb0.lt
  -- region 17
  go_wp2_with fail
  refine (markIntS_any B1 ((firstL k0 x0)).length q1 _ _ _ 1 _ hF1 (by rw [nums_len]) (by omega) (by omega) hlen).mono ?_
  rintro e v11 ⟨rfl, hs, hM⟩
  have hsz := ht.size
  replace ht := hs.below ht (by omega) hsz
  replace hb0 := hs.whole hb0 (by omega)
  replace hF0 := hs.fresh hF0 (by omega)
  clear hs hF1 hsz
  clear hb0_0 hb0_1 hb0_l
  obtain ⟨hb0_0, hb0_1⟩ := hb0.cells2
  have hb0_l := hb0.lt
  -- region 19
  go_wp2_with fail
  refine (heldIntS_any B1 ((firstL k0 x0)).length q1 1 _ (by exact hM.holds) (by omega) (by omega) hlen).mono ?_
  rintro e v12 ⟨rfl, rfl⟩
  have hm0 : (0 : Int) ≤ 1 + (((firstL k0 x0)).length : Int) := by omega
  clear hb0_0 hb0_1 hb0_l
  obtain ⟨hb0_0, hb0_1⟩ := hb0.cells2
  have hb0_l := hb0.lt
  -- region 24
  go_wp2_with fail
  refine (toPuzzle_own k0 A0 n0 c0 x0 _ (by exact h0.below ht) HX0.out (by omega)).mono ?_
  rintro e v12 ⟨gr0, rfl, hgr0, hwr0, hb⟩
  have hz12 : v11.heap.size ≤ v12.heap.size := by have := hb.size; simpa using this
  replace ht := below_then ht hb ht.size
  replace hb0 := hb0.below hb
  replace hF0 := hF0.below hb
  replace hM := hM.below hb
  have hr0 := Fresh.of_whole (lo := v11.heap.size) (hi := v12.heap.size) hwr0 (by simpa using hgr0) hwr0.lt
  clear hgr0 hwr0
  clear hb
  clear hb0_0 hb0_1 hb0_l
  obtain ⟨hb0_0, hb0_1⟩ := hb0.cells2
  have hb0_l := hb0.lt
  go_wp2_with fail
  refine (implFirstSolution_on k0 _ n0 _ x0 _ (by exact hr0.holds) HX0.out (by omega)).mono ?_
  rintro e v13 ⟨B2, q2, rfl, hF2, hb⟩
  have hz13 : v12.heap.size ≤ v13.heap.size := by have := hb.size; simpa using this
  replace ht := below_then ht hb ht.size
  replace hb0 := hb0.below hb
  replace hF0 := hF0.below hb
  replace hM := hM.below hb
  replace hr0 := hr0.below hb
  replace hF2 := hF2.more (lo' := v12.heap.size) (hi' := v13.heap.size) (by simp) (Nat.le_refl _)
  clear hb
  clear hr0
  clear hb0_0 hb0_1 hb0_l
  obtain ⟨hb0_0, hb0_1⟩ := hb0.cells2
  have hb0_l := hb0.lt
  -- region 25
  go_wp2_with fail
  refine (eqIntS_yes B2 B0 ((firstL k0 x0)).length q2 q0 ((firstL k0 x0)) _ (by exact hF2.holds) (by exact hF0.holds) rfl (by omega)).mono ?_
  rintro e v14 ⟨rfl, hb⟩
  have hz14 : v13.heap.size ≤ v14.heap.size := by have := hb.size; simpa using this
  replace ht := below_then ht hb ht.size
  replace hb0 := hb0.below hb
  replace hF0 := hF0.below hb
  replace hM := hM.below hb
  replace hF2 := hF2.below hb
  clear hb
  clear hb0_0 hb0_1 hb0_l
  obtain ⟨hb0_0, hb0_1⟩ := hb0.cells2
  have hb0_l := hb0.lt
  -- region 28
  go_wp2_with fail
  refine (heldIntS_any B1 ((firstL k0 x0)).length q1 1 _ (by exact hM.holds) (by omega) (by omega) hlen).mono ?_
  rintro e v15 ⟨rfl, rfl⟩
  clear hb0_0 hb0_1 hb0_l
  obtain ⟨hb0_0, hb0_1⟩ := hb0.cells2
  have hb0_l := hb0.lt
  go_wp2
  go_ret
  exact ⟨rfl, ht⟩

theorem lawFirstSolution_all (k0 : Int) (A0 : Option Addr) (n0 c0 : Nat) (x0 : List Cl) (w : World) (h0 : Holds w A0 (clsC x0)) (hx0 : x0.length = n0) (hn0 : n0 ≤ 9223372036854775807) :
    Calls Try.prog 10 #[.agg #[.int .i64 k0, .slice A0 n0 c0]] w fun e w' => e = .returned (.bool true) ∧ Below w.heap.size w w' := by
  rcases (inferInstance : Decidable (0 ≤ 1048576 - (n0 : Int))) with g0 | g0
  · exact lawFirstSolution_big0 k0 A0 n0 c0 x0 w h0 hx0 hn0  (by omega)
  exact lawFirstSolution_small k0 A0 n0 c0 x0 w h0 hx0 hn0 g0
end Go.Proofs.Ytcoagbcleccmmaa
