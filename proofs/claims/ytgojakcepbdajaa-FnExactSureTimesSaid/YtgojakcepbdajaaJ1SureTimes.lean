/-
  What is proved: contracts of the laws' own marks of clues and puzzles. Conditions: what is marked is a row of the call's own; counts are small.
  What is proved: contracts of SureTimes, of the model and of the program. Conditions: the clues are read as they lie.
  What is proved: the law FnExactSureTimes returns true at every argument, and leaves all that was there as it was. Conditions: the arguments are read as they lie.
-/
import Derived.Deep.RegionHeld3
import Derived.Test.YtgojakcepbdajaaJ5BestClue
set_option linter.unusedSimpArgs false
set_option linter.unusedVariables false
namespace Go.Proofs.Ytgojakcepbdajaa
open Go.RowKit

set_option maxHeartbeats 1600000 in
theorem markClueS_any (A : Option Addr) (n c lo hi : Nat) (cs : List Cl) (q : Int) (w : World) (hf : Fresh w lo hi 69 A (clsC cs)) (hx : cs.length = n) (h0 : 0 ≤ q) (h1 : q ≤ 2305843009213693952) (hn : n ≤ 1048576) :
    Calls Try.prog 43 #[.slice A n c, .int .i64 q] w fun e w' => e = .returned (.int .i64 (q + ((n * 3 : Nat) : Int))) ∧ Span lo hi w w' ∧ Fresh w' lo hi 69 A (nums (marksI q (n * 3))) := by
  subst hx
  have hlc := clsC_len cs
  generalize clsC cs = xs at hf hlc
  generalize cs.length = n at *
  rcases hf with rfl | ⟨g, cells, rfl, hlo, hhi, hw, hle, htk⟩
  · have hn0 : n = 0 := by simp at hlc; omega
    subst hn0
    go_enter Try.func43, Try.ntmps43
    go_wp2
    refine wp_loop_rounds 1 ?_
    rw [rounds_succ]
    go_wp2
    go_ret
    exact ⟨ret_of (by simp), Span.refl _ _ _, .inl (by simp [marksI, nums])⟩
  · have HT := Lib.hid htk
    have HLC := Lib.hid hlc
    have hsz : n * 3 ≤ cells.size := by omega
    have HSZ := Lib.hid hsz
    clear htk hlc hle hsz
    have hm0 : Whole w g 69 (marked (fun i : Nat => .int .i64 (q + (i : Int))) cells (0 * 3)) := by rw [Nat.zero_mul, marked_zero]; exact hw
    have hgl := hw.lt
    go_enter Try.func43, Try.ntmps43
    go_wp2
    go_loopw [1, 5] (fun v i wr => ∃ k : Nat, k ≤ n ∧ i = .int .i64 k ∧ v = .int .i64 (q + ((k * 3 : Nat) : Int)) ∧ Whole wr g 69 (marked (fun i : Nat => .int .i64 (q + (i : Int))) cells (k * 3)) ∧ Span lo hi w wr) (fun _ i _ => n - (intOf i).toNat)
    case atStart => exact ⟨0, Nat.zero_le _, rfl, by simp, hm0, Span.refl _ _ _⟩
    case round =>
      obtain ⟨k, hk, rfl, rfl, hm, hs⟩ := hrel
      clear hm0 hw
      by_cases hlt : k < n
      · have hs3 := HSZ.out
        have hks : k * 3 + 2 < cells.size := by omega
        have h00 : (marked (fun i : Nat => .int .i64 (q + (i : Int))) cells (k * 3)).size = cells.size := by simp [marked]; omega
        obtain ⟨u0, hu0⟩ : ∃ u, (marked (fun i : Nat => .int .i64 (q + (i : Int))) cells (k * 3))[k * 3]? = some u := ⟨_, Array.getElem?_eq_getElem (by omega)⟩
        obtain ⟨u1, hu1⟩ : ∃ u, (marked (fun i : Nat => .int .i64 (q + (i : Int))) cells (k * 3))[k * 3 + 1]? = some u := ⟨_, Array.getElem?_eq_getElem (by omega)⟩
        obtain ⟨u2, hu2⟩ : ∃ u, (marked (fun i : Nat => .int .i64 (q + (i : Int))) cells (k * 3))[k * 3 + 2]? = some u := ⟨_, Array.getElem?_eq_getElem (by omega)⟩
        have c0 := (hm.cell (k * 3)).trans hu0
        have c1 := (hm.cell (k * 3 + 1)).trans hu1
        have c2 := (hm.cell (k * 3 + 2)).trans hu2
        have f0 := hm.open_ (k * 3)
        have f1 := hm.open_ (k * 3 + 1)
        have f2 := hm.open_ (k * 3 + 2)
        obtain ⟨z, hz⟩ : ∃ z : Int, z = q + ((k * 3 : Nat) : Int) := ⟨_, rfl⟩
        have hset := ((hm.set_ (k * 3) (.int .i64 (q + ((k * 3 : Nat) : Int)))).set_ (k * 3 + 1) (.int .i64 (q + ((k * 3 + 1 : Nat) : Int)))).set_ (k * 3 + 2) (.int .i64 (q + ((k * 3 + 2 : Nat) : Int)))
        rw [marked_next (fun i : Nat => .int .i64 (q + (i : Int))) cells (k := k * 3) (by omega), marked_next (fun i : Nat => .int .i64 (q + (i : Int))) cells (k := k * 3 + 1) (by omega), marked_next (fun i : Nat => .int .i64 (q + (i : Int))) cells (k := k * 3 + 2) (by omega), show q + ((k * 3 + 1 : Nat) : Int) = z + 1 by omega, show q + ((k * 3 + 2 : Nat) : Int) = z + 1 + 1 by omega, ← hz] at hset
        have HSET := Lib.hid hset
        have HSP := Lib.hid hs
        have hz0 : 0 ≤ z := by omega
        have hz1 : z ≤ 4611686018427387904 := by omega
        have HZ := Lib.hid hz
        rw [← hz]
        have hkl : (k : Int) < n := by omega
        clear hm hs hset hu0 hu1 hu2 h00 hz hs3
        have hw1 : IntKind.i64.wrap (z + 1) = z + 1 := IntWalk.i64_in _ (by omega)
        have hw2 : IntKind.i64.wrap (z + 1 + 1) = z + 1 + 1 := IntWalk.i64_in _ (by omega)
        have hw3 : IntKind.i64.wrap (z + 1 + 1 + 1) = z + 1 + 1 + 1 := IntWalk.i64_in _ (by omega)
        go_wp2
        go_roundw
        case rel => exact ⟨k + 1, by omega, by go_num, congrArg _ (by have := HZ.out; omega), by rw [show (k + 1) * 3 = k * 3 + 2 + 1 by omega]; exact HSET.out, HSP.out.trans ⟨rfl, rfl, rfl, by simp [World.setCell], fun j _ hj => ((Below.heap_setCell _ _ _ _ (by show j ≠ g; omega)).trans (Below.heap_setCell _ _ _ _ (by show j ≠ g; omega))).trans (Below.heap_setCell _ _ _ _ (by show j ≠ g; omega))⟩⟩
        case measure => simp [intOf]; omega
      · have hkn : k = n := by omega
        subst hkn
        go_wp2
        go_ret
        refine ⟨rfl, hs, .inr ⟨g, _, rfl, hlo, hhi, hm, ?_, ?_⟩⟩
        · simp [nums_len, marksI_len, marked]
        · rw [nums_len, marksI_len, marked_take _ _ _]
          simp [nums, marksI]

set_option maxHeartbeats 1600000 in
theorem heldClueS_any (A : Option Addr) (n c : Nat) (q : Int) (w : World) (hA : Holds w A (nums (marksI q (n * 3)))) (h0 : 0 ≤ q) (h1 : q ≤ 2305843009213693952) (hn : n ≤ 1048576) :
    Calls Try.prog 54 #[.slice A n c, .int .i64 q] w fun e w' => e = .returned (.int .i64 (q + ((n * 3 : Nat) : Int))) ∧ w = w' := by
  have hl := marksI_len q (n * 3)
  have HL := Lib.hid hl
  clear hl
  go_enter Try.func54, Try.ntmps54
  go_wp2
  go_loop [1, 5] (fun v i => ∃ k : Nat, k ≤ n ∧ i = .int .i64 k ∧ v = .int .i64 (q + ((k * 3 : Nat) : Int))) (fun _ i => n - (intOf i).toNat)
  case atStart => exact ⟨0, Nat.zero_le _, rfl, by simp⟩
  case round =>
    obtain ⟨k, hk, rfl, rfl⟩ := hrel
    by_cases hlt : k < n
    · obtain ⟨b, o, rfl, hb, hc0⟩ := hA.look (k := k * 3) (by rw [nums_len, HL.out]; omega)
      obtain ⟨b1, o1, hA1, hb1, hc1⟩ := hA.look (k := k * 3 + 1) (by rw [nums_len, HL.out]; omega)
      obtain ⟨b2, o2, hA2, hb2, hc2⟩ := hA.look (k := k * 3 + 2) (by rw [nums_len, HL.out]; omega)
      obtain ⟨rfl, rfl⟩ : b = b1 ∧ o = o1 := by
        simp only [Option.some.injEq, Addr.mk.injEq] at hA1
        exact ⟨hA1.1, hA1.2.1⟩
      obtain ⟨rfl, rfl⟩ : b = b2 ∧ o = o2 := by
        simp only [Option.some.injEq, Addr.mk.injEq] at hA2
        exact ⟨hA2.1, hA2.2.1⟩
      obtain ⟨z, hz⟩ : ∃ z : Int, z = q + ((k * 3 : Nat) : Int) := ⟨_, rfl⟩
      have hv0 : (nums (marksI q (n * 3)))[k * 3]'(by rw [nums_len, HL.out]; omega) = .int .i64 z := by simp [nums, marksI, hz]
      have hv1 : (nums (marksI q (n * 3)))[k * 3 + 1]'(by rw [nums_len, HL.out]; omega) = .int .i64 (z + 1) := by simp [nums, marksI, hz]; omega
      have hv2 : (nums (marksI q (n * 3)))[k * 3 + 2]'(by rw [nums_len, HL.out]; omega) = .int .i64 (z + 1 + 1) := by simp [nums, marksI, hz]; omega
      rw [hv0] at hc0
      rw [hv1] at hc1
      rw [hv2] at hc2
      rw [← Nat.add_assoc] at hc1 hc2
      have hkl : (k : Int) < n := by omega
      have hw1 : IntKind.i64.wrap (z + 1) = z + 1 := IntWalk.i64_in _ (by omega)
      have hw2 : IntKind.i64.wrap (z + 1 + 1) = z + 1 + 1 := IntWalk.i64_in _ (by omega)
      have hw3 : IntKind.i64.wrap (z + 1 + 1 + 1) = z + 1 + 1 + 1 := IntWalk.i64_in _ (by omega)
      have hn0 : (z != z) = false := by simp
      have hn1 : (z + 1 != z + 1) = false := by simp
      have hn2 : (z + 1 + 1 != z + 1 + 1) = false := by simp
      have HZ := Lib.hid hz
      rw [← hz]
      clear hv0 hv1 hv2 hA1 hA2 hb1 hb2 hz
      go_wp2
      go_round
      case rel => exact ⟨k + 1, by omega, by go_num, congrArg _ (by have := HZ.out; omega)⟩
      case measure => simp [intOf]; omega
    · have hkn : k = n := by omega
      subst hkn
      go_wp2
      go_ret
      exact ⟨rfl, rfl⟩

set_option maxHeartbeats 400000 in
theorem markPuzzle_any (s : Int) (A : Option Addr) (n c lo hi : Nat) (cs : List Cl) (q : Int) (w : World) (hf : Fresh w lo hi 69 A (clsC cs)) (hx : cs.length = n) (h0 : 0 ≤ q) (h1 : q ≤ 2305843009213693952) (hn : n ≤ 1048576) :
    Calls Try.prog 22 #[.agg #[.int .i64 s, .slice A n c], .int .i64 q] w fun e w' => e = .returned (.int .i64 (q + ((n * 3 : Nat) : Int))) ∧ Span lo hi w w' ∧ Fresh w' lo hi 69 A (nums (marksI q (n * 3))) := by
  have HX := Lib.hid hx
  clear hx
  go_enter Try.func22, Try.ntmps22
  go_wp2_with fail
  refine (markClueS_any A n c lo hi cs q _ (hf.alloc _) HX.out h0 h1 hn).mono ?_
  rintro e w1 ⟨rfl, hs, hf1⟩
  have HS := Lib.hid hs
  have HF := Lib.hid hf1
  clear hs hf1
  go_wp2
  go_ret
  exact ⟨rfl, (Span.of_below (below1 w _) lo hi).trans HS.out, HF.out⟩

set_option maxHeartbeats 400000 in
theorem heldPuzzle_any (A : Option Addr) (n c : Nat) (s q : Int) (w : World) (hA : Holds w A (nums (marksI q (n * 3)))) (h0 : 0 ≤ q) (h1 : q ≤ 2305843009213693952) (hn : n ≤ 1048576) :
    Calls Try.prog 29 #[.agg #[.int .i64 s, .slice A n c], .int .i64 q] w fun e w' => e = .returned (.int .i64 (q + ((n * 3 : Nat) : Int))) ∧ Below w.heap.size w w' := by
  have hq0 : ¬ (q + ((n * 3 : Nat) : Int) < 0) := by omega
  obtain ⟨z, hz⟩ : ∃ z : Int, z = q + ((n * 3 : Nat) : Int) := ⟨_, rfl⟩
  have H := Lib.hid (heldClueS_any A n c q _ (hA.alloc (.cells #[.int .i64 s, .slice A n c] 37)) h0 h1 hn)
  rw [← hz] at H hq0 ⊢
  clear hA hz
  go_enter Try.func29, Try.ntmps29
  go_wp2_with fail
  refine H.out.mono ?_
  rintro e w1 ⟨rfl, rfl⟩
  go_wp2
  go_ret
  exact ⟨rfl, below1 w _⟩
end Go.Proofs.Ytgojakcepbdajaa

namespace Go.Proofs.Ytgojakcepbdajaa
open Go.RowKit

/-- A list against another one, place for place: 0 where they part. -/
def sureJ (s l : List Int) : Nat → List Int
  | 0 => s
  | j + 1 => if (sureJ s l j).getD j 0 = l.getD j 0 then sureJ s l j else (sureJ s l j).set j 0
theorem sureJ_len (s l : List Int) : ∀ j, (sureJ s l j).length = s.length
  | 0 => rfl
  | j + 1 => by
    show (if _ then _ else _ : List Int).length = _
    split
    · exact sureJ_len s l j
    · rw [List.length_set]; exact sureJ_len s l j
theorem sureJ_yes {s l : List Int} {j : Nat} (h : (sureJ s l j).getD j 0 = l.getD j 0) : sureJ s l (j + 1) = sureJ s l j := if_pos h
theorem sureJ_no {s l : List Int} {j : Nat} (h : ¬ (sureJ s l j).getD j 0 = l.getD j 0) : sureJ s l (j + 1) = (sureJ s l j).set j 0 := if_neg h
theorem sureJ_self (s : List Int) : ∀ j, sureJ s s j = s
  | 0 => rfl
  | j + 1 => by
    rw [sureJ_yes (by rw [sureJ_self s j]), sureJ_self s j]
/-- What stands after the first lists. -/
def sureTo (ls : List (List Int)) : Nat → List Int
  | 0 => ls.headD []
  | k + 1 => sureJ (sureTo ls k) (ls.getD k []) (ls.getD k []).length
theorem sureTo_one (ls : List (List Int)) : sureTo ls 1 = ls.headD [] := by
  cases ls with
  | nil => rfl
  | cons l ls => exact sureJ_self l _
theorem sureTo_len (ls : List (List Int)) : ∀ k, (sureTo ls k).length = (ls.headD []).length
  | 0 => rfl
  | k + 1 => (sureJ_len _ _ _).trans (sureTo_len ls k)
def sureI (p : Int) (cs : List Cl) : List Int := sureTo (solsI p cs) (solsI p cs).length
def anyS (p : Int) (cs : List Cl) : Bool := decide (0 < (solsI p cs).length)
/-- What SureTimes hands back. -/
def SurePost (p : Int) (cs : List Cl) (w : World) (e : Ending) (w' : World) : Prop :=
  ∃ (B : Option Addr) (q : Nat), e = .returned (.tuple #[.slice B (sureI p cs).length q, .bool (anyS p cs)]) ∧ Fresh w' w.heap.size w'.heap.size 3 B (nums (sureI p cs)) ∧ Below w.heap.size w w'
theorem sols_four {p : Int} {cs : List Cl} : ∀ l ∈ solsI p cs, (l.length : Int) = p ∧ 1 ≤ p ∧ p ≤ 4 := fun l hl => by
  cases h : pzOk p cs
  · rw [solsI_no h] at hl; cases hl
  · obtain ⟨h1, h4, -⟩ := pzOk_parts h
    obtain ⟨P, rfl⟩ := Int.eq_ofNat_of_zero_le (show 0 ≤ p by omega)
    rw [solsI_yes h, solI_filter (by omega) (by omega)] at hl
    have := (upOk_of (p := P) (m := 6) (by omega) (by omega) (by omega) (by omega)).2.2 l (List.mem_filter.1 hl).1
    omega
theorem sureI_nil {p : Int} {cs : List Cl} (h : solsI p cs = []) : sureI p cs = [] ∧ anyS p cs = false := by
  unfold sureI anyS
  rw [h]
  exact ⟨rfl, rfl⟩
theorem sureI_le (p : Int) (cs : List Cl) : (sureI p cs).length ≤ 1048576 := by
  unfold sureI
  rw [sureTo_len]
  cases h : solsI p cs with
  | nil => simp
  | cons l ls =>
    have := sols_four (p := p) (cs := cs) l (by rw [h]; simp)
    show l.length ≤ _
    omega
theorem rowNums_getD {rs : List RowV} {ls : List (List Int)} {k : Nat} (hr : rowNums rs = ls) (hk : k < rs.length) : ls.getD k [] = (rs[k]).xs := by
  subst hr
  have h : k < (rowNums rs).length := by rw [rowNums_len]; exact hk
  rw [List.getD_eq_getElem?_getD, List.getElem?_eq_getElem h]
  exact rowNums_get hk

set_option maxHeartbeats 3200000 in
set_option maxRecDepth 100000 in
theorem specSureTimes_any (p : Int) (A : Option Addr) (n c : Nat) (cs : List Cl) (w : World) (hA : Holds w A (clsC cs)) (hx : cs.length = n) (hn : n ≤ 1048576) :
    Calls Try.prog 18 #[.agg #[.int .i64 p, .slice A n c]] w (SurePost p cs w) := by
  have hbl := below1 w (.cells #[.int .i64 p, .slice A n c] 37)
  have hw0 := Whole.fresh w 37 #[.int .i64 p, .slice A n c]
  have HBL := Lib.hid hbl
  have HA := Lib.hid (hA.below hbl)
  have H0 := Lib.hid hw0
  have HX := Lib.hid hx
  cases hok : pzOk p cs
  · have HOK := Lib.hid hok
    have HS := Lib.hid (sureI_nil (solsI_no hok))
    clear hbl hA hx hok hw0
    go_enter Try.func18, Try.ntmps18
    go_wp2_with fail
    refine (pzGood_any p A n c cs _ HA.out HX.out (by omega)).mono ?_
    rintro e w2 ⟨rfl, hb⟩
    rw [HOK.out]
    have HF := Lib.hid (below_then HBL.out hb HBL.out.size)
    clear hb
    go_wp2
    go_ret2
    exact ⟨none, 0, by rw [HS.out.1, HS.out.2]; rfl, by rw [HS.out.1]; exact .inl rfl, HF.out⟩
  · have HOK := Lib.hid hok
    have HS := Lib.hid (solsI_yes hok)
    obtain ⟨hp1, hp4, hl6, hall⟩ := pzOk_parts hok
    have HALL := Lib.hid hall
    have HLE := Lib.hid (solI_len cs hp1 hp4)
    clear hbl hA hx hok hw0 hall
    go_enter Try.func18, Try.ntmps18
    go_wp2_with fail
    refine (pzGood_any p A n c cs _ HA.out HX.out (by omega)).mono ?_
    rintro e w2 ⟨rfl, hb⟩
    rw [HOK.out]
    have HF := Lib.hid (below_then HBL.out hb HBL.out.size)
    have HA2 := Lib.hid (HA.out.below hb)
    obtain ⟨c0, c1⟩ := (H0.out.below hb).cells2
    clear hb
    go_wp2_with fail
    refine (pzAll_any p A n c cs _ HA2.out HX.out (by have := HX.out; omega) HALL.out hp1 hp4).mono ?_
    rintro e w3 ⟨A3, c3, rs, rfl, hr, hh, hb⟩
    have HR : Hid (rowNums rs = solsI p cs) := by show _ = _; rw [HS.out]; exact hr
    have hrl : rs.length ≤ 1296 := by rw [heads_len hh hr]; exact HLE.out
    have HH := Lib.hid hh
    have HB := Lib.hid (below_then HF.out hb HF.out.size)
    clear hr hh hb
    by_cases h0 : rs.length = 0
    · have hb0 : ((rs.length : Int) == 0) = true := by simp [h0]
      have HN := Lib.hid (sureI_nil (p := p) (cs := cs) (by rw [← HR.out]; exact List.eq_nil_of_length_eq_zero (by rw [rowNums_len]; exact h0)))
      clear h0
      go_wp2
      go_ret2
      exact ⟨none, 0, by rw [HN.out.1, HN.out.2]; rfl, by rw [HN.out.1]; exact .inl rfl, HB.out⟩
    · have hb0 : ((rs.length : Int) == 0) = false := by simp [h0]
      have hpos : 0 < rs.length := by omega
      have hposI : (0 : Int) < rs.length := by omega
      have hgrid := HH.out.free.grid
      obtain ⟨b1, o1, rfl, hbl1, hc, hro⟩ := hgrid.look hpos
      have hfx := first_of HR.out hpos
      have HLS : Hid (∀ k (h : k < rs.length), ((rs[k]).xs.length : Int) = p) := fun k h => (sols_four (p := p) (cs := cs) _ (by rw [← HR.out, ← rowNums_get h]; exact List.getElem_mem _)).1
      have hl0 := HLS.out 0 hpos
      obtain ⟨R, hR⟩ : ∃ R, R = rs[0] := ⟨_, rfl⟩
      rw [← hR] at hc hro hfx hl0
      obtain ⟨rA, rn, rc, rxs⟩ := R
      replace hc : World.cell? w3 ⟨b1, o1, none⟩ = some (.slice rA rn rc) := hc
      obtain ⟨hrow, hrn, -⟩ := hro
      replace hrow : Holds w3 rA (nums rxs) := hrow
      replace hrn : rxs.length = rn := hrn
      replace hfx : rxs = (solsI p cs).headD [] := hfx
      replace hl0 : (rxs.length : Int) = p := hl0
      have hrA : rA = none → rc = 0 := fun h => by
        exfalso
        rw [h] at hrow
        rcases hrow with h1 | ⟨b, o, h1, -⟩
        · have h2 : rxs = [] := by simpa [nums] using h1
          rw [h2] at hl0
          simp at hl0
          omega
        · cases h1
      have HROW := Lib.hid hrow
      have HRN := Lib.hid hrn
      have HFX := Lib.hid hfx
      have HRA := Lib.hid hrA
      have HL0 := Lib.hid hl0
      have HANY : Hid (anyS p cs = true) := by show decide _ = true; rw [← HR.out, rowNums_len]; exact decide_eq_true hpos
      clear hgrid hrow hrn hfx hrA hR h0 hl0
      go_wp2_with fail
      refine (l1Own_any rA rn rc rxs _ HROW.out HRN.out (by have := HRN.out; have := HL0.out; omega) HRA.out).mono ?_
      rintro e w5 ⟨D, d, rfl, hown, hb5⟩
      obtain ⟨D', d', hv, hf5⟩ := Fresh.of_own hown (Nat.le_refl _)
      obtain ⟨rfl, rfl⟩ : D = D' ∧ d = d' := by simpa using hv
      obtain ⟨g, -, rfl, -⟩ := hf5.turn (k := 0) (by rw [nums_len]; have := HL0.out; omega)
      have HF5 := Lib.hid hf5
      have HB5 := Lib.hid hb5
      have HS5 := Lib.hid hb5.size
      have hxl : rxs.length = p.toNat := by have := HL0.out; omega
      clear hown hv hf5 hb5 hc hbl1
      go_wp2
      go_loopw [27] (fun i wr => ∃ k : Nat, k ≤ rs.length ∧ i = .int .i64 k ∧ Fresh wr w3.heap.size w5.heap.size 3 (some ⟨g, 0, none⟩) (nums (sureTo (solsI p cs) k)) ∧ Below w3.heap.size w3 wr ∧ wr.heap.size = w5.heap.size) (fun i _ => rs.length - (intOf i).toNat)
      case atStart => exact ⟨0, Nat.zero_le _, rfl, by show Fresh _ _ _ _ _ (nums ((solsI p cs).headD [])); rw [← HFX.out]; exact HF5.out, HB5.out, rfl⟩
      case round =>
        obtain ⟨k, hk, rfl, hfr, hbr, hzr⟩ := hrel
        have HFR := Lib.hid hfr
        have HBR := Lib.hid hbr
        by_cases hlt : k < rs.length
        · have hkI : (k : Int) < rs.length := by omega
          obtain ⟨b1', o1', hbe, hbl1, hc, hro⟩ := (HH.out.free.grid.below hbr).look hlt
          obtain ⟨rfl, rfl⟩ : b1 = b1' ∧ o1 = o1' := by simpa using hbe
          have HGD := Lib.hid (rowNums_getD HR.out hlt)
          have hl0 := HLS.out k hlt
          obtain ⟨R, hR⟩ : ∃ R, R = rs[k] := ⟨_, rfl⟩
          rw [← hR] at hc hro hl0 HGD
          obtain ⟨sA, sn, sc, sxs⟩ := R
          replace hc : World.cell? wr ⟨b1, o1 + k, none⟩ = some (.slice sA sn sc) := hc
          obtain ⟨hrow, hrn, -⟩ := hro
          replace hrow : Holds wr sA (nums sxs) := hrow
          replace hrn : sxs.length = sn := hrn
          replace hl0 : (sxs.length : Int) = p := hl0
          have hrow3 : Holds w3 sA (nums sxs) := by
            have := (HH.out.free.grid.2 _ (List.getElem_mem hlt)).1
            rw [← hR] at this
            exact this
          have HROW3 := Lib.hid hrow3
          have HRN2 := Lib.hid hrn
          have HL2 := Lib.hid hl0
          have HNX : Hid (sureTo (solsI p cs) (k + 1) = sureJ (sureTo (solsI p cs) k) sxs sxs.length) := by
            show sureJ _ _ _ = _
            rw [HGD.out]
          obtain ⟨S, hS⟩ : ∃ S, S = sureTo (solsI p cs) k := ⟨_, rfl⟩
          have HSL : Hid (S.length = sxs.length) := by
            show _ = _
            rw [hS, sureTo_len, ← HFX.out]
            have := HL0.out
            have := HL2.out
            omega
          rw [← hS] at HFR HNX
          clear hfr hbr hrow hrow3 hrn hl0 hR hS hbe
          go_wp2
          go_loopw [33] (fun i ws => ∃ j : Nat, j ≤ sn ∧ i = .int .i64 j ∧ Fresh ws w3.heap.size w5.heap.size 3 (some ⟨g, 0, none⟩) (nums (sureJ S sxs j)) ∧ Below w3.heap.size w3 ws ∧ ws.heap.size = w5.heap.size) (fun i _ => sn - (intOf i).toNat)
          case atStart => exact ⟨0, Nat.zero_le _, rfl, HFR.out, HBR.out, hzr⟩
          case round =>
            obtain ⟨j, hj, rfl, hfs, hbs, hzs⟩ := hrel
            by_cases hjl : j < sn
            · have hjI : (j : Int) < sn := by omega
              have hjp : j < p.toNat := by have := HRN2.out; have := HL2.out; omega
              have hjpI : (j : Int) < (p.toNat : Int) := by omega
              have hjx : j < sxs.length := by have := HRN2.out; omega
              have hjs : j < (sureJ S sxs j).length := by rw [sureJ_len, HSL.out]; exact hjx
              obtain ⟨rb, ro, rfl, hrb, hcr⟩ := (HROW3.out.below hbs).look (k := j) (by rw [nums_len]; exact hjx)
              simp only [nums, List.getElem_map] at hcr
              obtain ⟨g', u, hge, hg1, hg2, hg3, -, hfz, hset⟩ := hfs.turn (k := j) (by rw [nums_len]; exact hjs)
              obtain rfl : g = g' := by simpa using hge
              obtain ⟨b9, o9, h9, -, hcv⟩ := hfs.holds.look (k := j) (by rw [nums_len]; exact hjs)
              obtain ⟨rfl, rfl⟩ : g = b9 ∧ 0 = o9 := by simpa using h9
              simp only [nums, List.getElem_map, Nat.zero_add] at hcv
              have HGX : Hid ((sureJ S sxs j).getD j 0 = (sureJ S sxs j)[j]) := by show _ = _; rw [List.getD_eq_getElem?_getD, List.getElem?_eq_getElem hjs]; rfl
              have HGY : Hid (sxs.getD j 0 = sxs[j]) := by show _ = _; rw [List.getD_eq_getElem?_getD, List.getElem?_eq_getElem hjx]; rfl
              obtain ⟨x, hx⟩ : ∃ x, x = (sureJ S sxs j)[j] := ⟨_, rfl⟩
              obtain ⟨y, hy⟩ : ∃ y, y = sxs[j] := ⟨_, rfl⟩
              rw [← hx] at HGX hcv
              rw [← hy] at HGY hcr
              have HFS := Lib.hid hfs
              have HBS := Lib.hid hbs
              have HSET := Lib.hid (hset (.int .i64 0))
              have HGW := Lib.hid hg1
              clear hfs hbs hset hx hy hge h9
              by_cases he : x = y
              · have HN2 := Lib.hid (sureJ_yes (s := S) (l := sxs) (j := j) (by rw [HGX.out, HGY.out]; exact he))
                have hb1 : (x == y) = true := by simp [he]
                clear he
                go_wp2
                go_roundw
                case rel => exact ⟨j + 1, by omega, by go_num, by rw [HN2.out]; exact HFS.out, HBS.out, hzs⟩
                case measure => simp [intOf]; omega
              · have HN2 := Lib.hid (sureJ_no (s := S) (l := sxs) (j := j) (by rw [HGX.out, HGY.out]; exact he))
                have hb1 : (x == y) = false := by simp [he]
                clear he
                go_wp2
                go_roundw
                case rel => exact ⟨j + 1, by omega, by go_num, by rw [HN2.out, show nums ((sureJ S sxs j).set j 0) = (nums (sureJ S sxs j)).set j (.int .i64 0) by simp [nums, List.map_set]]; exact HSET.out, below_set HBS.out HGW.out, by simp [World.setCell]; exact hzs⟩
                case measure => simp [intOf]; omega
            · obtain rfl : j = sn := by omega
              have HFS := Lib.hid hfs
              have HBS := Lib.hid hbs
              clear hfs hbs
              go_wp2
              go_roundw
              case rel => exact ⟨k + 1, by omega, by go_num, by rw [HNX.out, HRN2.out]; exact HFS.out, HBS.out, hzs⟩
              case measure => simp [intOf]; omega
        · obtain rfl : k = rs.length := by omega
          have HLK : Hid (sureI p cs = sureTo (solsI p cs) rs.length) := by show sureTo _ _ = _; rw [← HR.out, rowNums_len]
          have HLL : Hid (p.toNat = (sureI p cs).length) := by
            show _ = _
            rw [HLK.out, sureTo_len, ← HFX.out]
            have := HL0.out
            omega
          go_wp2
          go_ret2
          refine ⟨some ⟨g, 0, none⟩, d, by rw [HANY.out, ← HLL.out]; rfl, ?_, below_then HB.out HBR.out HB.out.size⟩
          rw [HLK.out]
          exact HFR.out.more HB.out.size (by omega)

/-- All rows but the first one lie apart from some blocks, and so do the rows' heads. -/
def OthR (lo hi b o : Nat) (rs : List RowV) (w : World) : Prop :=
  (∀ k (h : k < rs.length), 1 ≤ k → (∃ l r, (r ≤ lo ∨ hi ≤ l) ∧ Fresh w l r 3 (rs[k]).A (nums (rs[k]).xs)) ∧ (rs[k]).xs.length = (rs[k]).n) ∧ (∀ k (h : k < rs.length), w.cell? ⟨b, o + k, none⟩ = some (.slice (rs[k]).A (rs[k]).n (rs[k]).c)) ∧ (b < lo ∨ hi ≤ b)
theorem OthR.set {lo hi b o g j : Nat} {rs : List RowV} {w : World} {u : Value} (h : OthR lo hi b o rs w) (h1 : lo ≤ g) (h2 : g < hi) : OthR lo hi b o rs (w.setCell ⟨g, j, none⟩ u) := by
  obtain ⟨k1, k2, k3⟩ := h
  refine ⟨fun k hk h0 => ?_, fun k hk => ?_, k3⟩
  · obtain ⟨⟨l, r, hd, hf⟩, hl⟩ := k1 k hk h0
    exact ⟨⟨l, r, hd, hf.set_out (by omega)⟩, hl⟩
  · rw [World.cell?_setCell_other]
    · exact k2 k hk
    · intro e
      have := congrArg Addr.block e
      simp at this
      omega
theorem heads_apart {w : World} {lo c : Nat} {A : Option Addr} {rs : List RowV} (h : Heads w lo A c rs) (h0 : 0 < rs.length) : ∃ (b o l r : Nat), A = some ⟨b, o, none⟩ ∧ rs.length ≤ c ∧ lo ≤ l ∧ r ≤ w.heap.size ∧ Fresh w l r 3 (rs[0]).A (nums (rs[0]).xs) ∧ OthR l r b o rs w := by
  have hf := h.free
  obtain ⟨hown, -⟩ := h
  have hcap : rs.length ≤ c := by
    obtain ⟨-, ⟨-, h1⟩ | ⟨g, cap, cur, hv, -, -, h1, -⟩⟩ := hown
    · omega
    · cases hv
      exact h1
  obtain ⟨ps, ⟨h1, h2, h3⟩, h4, h5⟩ := hf
  have h5' : rs ≠ [] := fun e => by rw [e] at h0; simp at h0
  obtain ⟨b, o, rfl, hb, -, -, hap, hc⟩ := h5.resolve_left h5'
  have hp0 : ps[0]? = some (ps[0]'(by omega)) := List.getElem?_eq_getElem (by omega)
  have hm0 := List.mem_of_getElem? hp0
  have hr0 := h2 0 _ _ (List.getElem?_eq_getElem h0) hp0
  have hb0 := h4 _ hm0
  refine ⟨b, o, (ps[0]'(by omega)).1, (ps[0]'(by omega)).2, rfl, hcap, hb0.1, hb0.2, hr0.1, fun k hk hk1 => ?_, fun k hk => ?_, ?_⟩
  · have hpk : ps[k]? = some (ps[k]'(by omega)) := List.getElem?_eq_getElem (by omega)
    have hrk := h2 k _ _ (List.getElem?_eq_getElem hk) hpk
    refine ⟨⟨_, _, ?_, hrk.1⟩, hrk.2.1⟩
    have := h3 k 0 _ _ (by omega) hpk hp0
    omega
  · refine hc k _ ?_
    rw [rowVals, List.getElem?_map, List.getElem?_eq_getElem hk]
    rfl
  · have := hap _ hm0
    omega
theorem hh0 {w : World} {lo c : Nat} {A : Option Addr} {rs : List RowV} (h : Heads w lo A c rs) (h0 : 0 < rs.length) : (rs[0]).xs.length = (rs[0]).n := (heads_first h h0).2

set_option maxHeartbeats 3200000 in
set_option maxRecDepth 100000 in
theorem implSureTimes_any (p : Int) (A : Option Addr) (n c : Nat) (cs : List Cl) (w : World) (hA : Holds w A (clsC cs)) (hx : cs.length = n) (hn : n ≤ 1048576) :
    Calls Try.prog 20 #[.agg #[.int .i64 p, .slice A n c]] w (SurePost p cs w) := by
  have hbl := below1 w (.cells #[.int .i64 p, .slice A n c] 37)
  have HBL := Lib.hid hbl
  have HC := Lib.hid (implSolutions_any p A n c cs _ (hA.below hbl) hx hn)
  have HLE := Lib.hid (solsI_len p cs)
  clear hbl hA hx
  go_enter Try.func20, Try.ntmps20
  go_wp2_with fail
  refine HC.out.mono ?_
  rintro e w3 ⟨A3, c3, rs, rfl, hr, hh, hb⟩
  have HR := Lib.hid hr
  have hrl : rs.length ≤ 1296 := by rw [heads_len hh hr]; exact HLE.out
  have HH := Lib.hid (hh.lower (lo' := w.heap.size) HBL.out.size)
  have HB := Lib.hid (below_then HBL.out hb HBL.out.size)
  clear hr hh hb
  by_cases h0 : rs.length = 0
  · have hb0 : ((rs.length : Int) == 0) = true := by simp [h0]
    have HN := Lib.hid (sureI_nil (p := p) (cs := cs) (by rw [← HR.out]; exact List.eq_nil_of_length_eq_zero (by rw [rowNums_len]; exact h0)))
    clear h0
    go_wp2
    go_ret2
    exact ⟨none, 0, by rw [HN.out.1, HN.out.2]; rfl, by rw [HN.out.1]; exact .inl rfl, HB.out⟩
  · have hb0 : ((rs.length : Int) == 0) = false := by simp [h0]
    have hpos : 0 < rs.length := by omega
    have hposI : (0 : Int) < rs.length := by omega
    obtain ⟨b1, o1, lo, hi, rfl, hcap, hlo, hhi, hf0, hoth⟩ := heads_apart HH.out hpos
    have HOTH := Lib.hid hoth
    have hc := hoth.2.1 0 hpos
    have hbl1 : b1 < w3.heap.size := by
      obtain ⟨b', o', e, h, -⟩ := HH.out.free.grid.look hpos
      obtain ⟨rfl, -⟩ : b1 = b' ∧ o1 = o' := by simpa using e
      exact h
    have hrn := (hh0 HH.out hpos)
    have hfx := first_of HR.out hpos
    have HLS : Hid (∀ k (h : k < rs.length), ((rs[k]).xs.length : Int) = p ∧ 1 ≤ p ∧ p ≤ 4) := fun k h => by
      have := sols_four (p := p) (cs := cs) (rs[k]).xs (by rw [← HR.out, ← rowNums_get h]; exact List.getElem_mem _)
      exact this
    have hl0 := (HLS.out 0 hpos).1
    have hp1 := (HLS.out 0 hpos).2.1
    have hp4 := (HLS.out 0 hpos).2.2
    obtain ⟨R, hR⟩ : ∃ R, R = rs[0] := ⟨_, rfl⟩
    rw [← hR] at hc hf0 hrn hfx hl0
    obtain ⟨rA, rn, rc, rxs⟩ := R
    replace hc : World.cell? w3 ⟨b1, o1 + 0, none⟩ = some (.slice rA rn rc) := hc
    rw [Nat.add_zero] at hc
    replace hf0 : Fresh w3 lo hi 3 rA (nums rxs) := hf0
    replace hrn : rxs.length = rn := hrn
    replace hfx : rxs = (solsI p cs).headD [] := hfx
    replace hl0 : (rxs.length : Int) = p := hl0
    obtain ⟨g, -, rfl, -⟩ := hf0.turn (k := 0) (by rw [nums_len]; omega)
    have HF0 := Lib.hid hf0
    have HRN := Lib.hid hrn
    have HFX := Lib.hid hfx
    have HL0 := Lib.hid hl0
    have hpn : p.toNat = rn := by omega
    have HANY : Hid (anyS p cs = true) := by show decide _ = true; rw [← HR.out, rowNums_len]; exact decide_eq_true hpos
    have hcI : (rs.length : Int) ≤ c3 := by omega
    have h1I : (1 : Int) ≤ rs.length := by omega
    have h1c : 1 ≤ rs.length := by omega
    clear hf0 hrn hfx hR h0 hl0 hoth
    by_cases hc1 : c3 = 1
    · have hlen1 : rs.length = 1 := by omega
      have hz : rs.length - 1 = 0 := by omega
      subst hc1
      have HLK : Hid (sureI p cs = sureTo (solsI p cs) rs.length) := by show sureTo _ _ = _; rw [← HR.out, rowNums_len]
      have HLL : Hid (rn = (sureI p cs).length) := by
        show _ = _
        rw [HLK.out, sureTo_len, ← HFX.out]
        exact HRN.out.symm
      have HLX : Hid (sureI p cs = rxs) := by show _ = _; rw [HLK.out, hlen1, sureTo_one, ← HFX.out]
      go_wp2
      go_loop [25] (fun i => i = .int .i64 0) (fun _ => 0)
      case atStart => rfl
      case round =>
        subst hrel
        have hz0 : ((rs.length - 1 : Nat) : Int) = 0 := by omega
        go_wp2
        go_ret2
        exact ⟨some ⟨g, 0, none⟩, rc, by rw [HANY.out, ← HLL.out]; rfl, by rw [HLX.out]; exact HF0.out.more hlo hhi, HB.out⟩
    · go_wp2
      go_loopw [25] (fun i wr => ∃ k : Nat, k + 1 ≤ rs.length ∧ i = .int .i64 k ∧ Fresh wr lo hi 3 (some ⟨g, 0, none⟩) (nums (sureTo (solsI p cs) (k + 1))) ∧ OthR lo hi b1 o1 rs wr ∧ Below w.heap.size w wr ∧ wr.heap.size = w3.heap.size) (fun i _ => rs.length - (intOf i).toNat)
      case atStart => exact ⟨0, by omega, rfl, by rw [sureTo_one, ← HFX.out]; exact HF0.out, HOTH.out, HB.out, rfl⟩
      case round =>
        obtain ⟨k, hk, rfl, hfr, hor, hbr, hzr⟩ := hrel
        have HFR := Lib.hid hfr
        have HBR := Lib.hid hbr
        have HOR := Lib.hid hor
        by_cases hlt2 : k + 1 < rs.length
        · have hkI : (k : Int) < ((rs.length - 1 : Nat) : Int) := by omega
          have hkn : k < rs.length - 1 := by omega
          have hc := hor.2.1 (k + 1) hlt2
          rw [show o1 + (k + 1) = o1 + 1 + k by omega] at hc
          have hbw : b1 < wr.heap.size := by omega
          have hrn2 := (hor.1 (k + 1) hlt2 (by omega)).2
          have HGD := Lib.hid (rowNums_getD HR.out hlt2)
          have hl0 := (HLS.out (k + 1) hlt2).1
          obtain ⟨R, hR⟩ : ∃ R, R = rs[k + 1] := ⟨_, rfl⟩
          rw [← hR] at hc hrn2 hl0 HGD
          have HRK := Lib.hid hR
          obtain ⟨sA, sn, sc, sxs⟩ := R
          replace hc : World.cell? wr ⟨b1, o1 + 1 + k, none⟩ = some (.slice sA sn sc) := hc
          replace hrn2 : sxs.length = sn := hrn2
          replace hl0 : (sxs.length : Int) = p := hl0
          have HRN2 := Lib.hid hrn2
          have HL2 := Lib.hid hl0
          have HNX : Hid (sureTo (solsI p cs) (k + 1 + 1) = sureJ (sureTo (solsI p cs) (k + 1)) sxs sxs.length) := by
            show sureJ _ _ _ = _
            rw [HGD.out]
          obtain ⟨S, hS⟩ : ∃ S, S = sureTo (solsI p cs) (k + 1) := ⟨_, rfl⟩
          have HSL : Hid (S.length = sxs.length) := by
            show _ = _
            rw [hS, sureTo_len, ← HFX.out]
            have := HL0.out
            have := HL2.out
            omega
          rw [← hS] at HFR HNX
          clear hfr hbr hor hrn2 hl0 hR hS
          go_wp2
          go_loopw [31] (fun i ws => ∃ j : Nat, j ≤ sn ∧ i = .int .i64 j ∧ Fresh ws lo hi 3 (some ⟨g, 0, none⟩) (nums (sureJ S sxs j)) ∧ OthR lo hi b1 o1 rs ws ∧ Below w.heap.size w ws ∧ ws.heap.size = w3.heap.size) (fun i _ => sn - (intOf i).toNat)
          case atStart => exact ⟨0, Nat.zero_le _, rfl, HFR.out, HOR.out, HBR.out, hzr⟩
          case round =>
            obtain ⟨j, hj, rfl, hfs, hos, hbs, hzs⟩ := hrel
            by_cases hjl : j < sn
            · have hjI : (j : Int) < sn := by omega
              have hjp : j < p.toNat := by have := HRN2.out; have := HL2.out; omega
              have hjpI : (j : Int) < (p.toNat : Int) := by omega
              have hjx : j < sxs.length := by have := HRN2.out; omega
              have hjs : j < (sureJ S sxs j).length := by rw [sureJ_len, HSL.out]; exact hjx
              have hrk := (hos.1 (k + 1) hlt2 (by omega)).1
              rw [← HRK.out] at hrk
              obtain ⟨l9, r9, -, hf9⟩ := hrk
              obtain ⟨rb, ro, rfl, hrb, hcr⟩ := hf9.holds.look (k := j) (by rw [nums_len]; exact hjx)
              simp only [nums, List.getElem_map] at hcr
              obtain ⟨g', u, hge, hg1, hg2, hg3, -, hfz, hset⟩ := hfs.turn (k := j) (by rw [nums_len]; exact hjs)
              obtain rfl : g = g' := by simpa using hge
              obtain ⟨b9, o9, h9, -, hcv⟩ := hfs.holds.look (k := j) (by rw [nums_len]; exact hjs)
              obtain ⟨rfl, rfl⟩ : g = b9 ∧ 0 = o9 := by simpa using h9
              simp only [nums, List.getElem_map, Nat.zero_add] at hcv
              have HGX : Hid ((sureJ S sxs j).getD j 0 = (sureJ S sxs j)[j]) := by show _ = _; rw [List.getD_eq_getElem?_getD, List.getElem?_eq_getElem hjs]; rfl
              have HGY : Hid (sxs.getD j 0 = sxs[j]) := by show _ = _; rw [List.getD_eq_getElem?_getD, List.getElem?_eq_getElem hjx]; rfl
              obtain ⟨x, hx⟩ : ∃ x, x = (sureJ S sxs j)[j] := ⟨_, rfl⟩
              obtain ⟨y, hy⟩ : ∃ y, y = sxs[j] := ⟨_, rfl⟩
              rw [← hx] at HGX hcv
              rw [← hy] at HGY hcr
              have HFS := Lib.hid hfs
              have HBS := Lib.hid hbs
              have HOS := Lib.hid hos
              have HSET := Lib.hid (hset (.int .i64 0))
              have HGW := Lib.hid hg1
              have HGH := Lib.hid hg2
              clear hfs hos hbs hset hx hy hge h9 hf9
              by_cases he : x = y
              · have HN2 := Lib.hid (sureJ_yes (s := S) (l := sxs) (j := j) (by rw [HGX.out, HGY.out]; exact he))
                have hb1 : (x == y) = true := by simp [he]
                clear he
                go_wp2
                go_roundw
                case rel => exact ⟨j + 1, by omega, by go_num, by rw [HN2.out]; exact HFS.out, HOS.out, HBS.out, hzs⟩
                case measure => simp [intOf]; omega
              · have HN2 := Lib.hid (sureJ_no (s := S) (l := sxs) (j := j) (by rw [HGX.out, HGY.out]; exact he))
                have hb1 : (x == y) = false := by simp [he]
                clear he
                go_wp2
                go_roundw
                case rel => exact ⟨j + 1, by omega, by go_num, by rw [HN2.out, show nums ((sureJ S sxs j).set j 0) = (nums (sureJ S sxs j)).set j (.int .i64 0) by simp [nums, List.map_set]]; exact HSET.out, HOS.out.set HGW.out HGH.out, below_set HBS.out (by have := HGW.out; omega), by simp [World.setCell]; exact hzs⟩
                case measure => simp [intOf]; omega
            · obtain rfl : j = sn := by omega
              have HFS := Lib.hid hfs
              have HBS := Lib.hid hbs
              have HOS := Lib.hid hos
              clear hfs hos hbs
              go_wp2
              go_roundw
              case rel => exact ⟨k + 1, by omega, by go_num, by rw [HNX.out, HRN2.out]; exact HFS.out, HOS.out, HBS.out, hzs⟩
              case measure => simp [intOf]; omega
        · have hkl : rs.length = k + 1 := by omega
          have hkI : ¬ ((k : Int) < ((rs.length - 1 : Nat) : Int)) := by omega
          have HLK : Hid (sureI p cs = sureTo (solsI p cs) (k + 1)) := by show sureTo _ _ = _; rw [← HR.out, rowNums_len, hkl]
          have HLL : Hid (rn = (sureI p cs).length) := by
            show _ = _
            rw [HLK.out, sureTo_len, ← HFX.out]
            exact HRN.out.symm
          have hkn : ¬ (k < rs.length - 1) := by omega
          clear hkl
          go_wp2
          go_ret2
          refine ⟨some ⟨g, 0, none⟩, rc, by rw [HANY.out, ← HLL.out]; rfl, ?_, HBR.out⟩
          rw [HLK.out]
          exact HFR.out.more hlo (by omega)
end Go.Proofs.Ytgojakcepbdajaa

namespace Go.Proofs.Ytgojakcepbdajaa
open Go.RowKit

set_option maxHeartbeats 800000 in
set_option linter.unusedVariables false in
theorem lawSureTimes_big0 (k0 : Int) (A0 : Option Addr) (n0 c0 : Nat) (x0 : List Cl) (w : World) (h0 : Holds w A0 (clsC x0)) (hx0 : x0.length = n0) (hn0 : n0 ≤ 9223372036854775807)  (hbig : 1048576 - (n0 : Int) < 0) :
    Calls Try.prog 5 #[.agg #[.int .i64 k0, .slice A0 n0 c0]] w fun e w' => e = .returned (.bool true) ∧ Below w.heap.size w w' := by
  have hb0 := (Whole.fresh w 32 #[.int .i64 k0, .slice A0 n0 c0])
  have ht := below1 w (.cells #[.int .i64 k0, .slice A0 n0 c0] 32)
  have HX0 := Lib.hid hx0
  clear hx0
  obtain ⟨hb0_0, hb0_1⟩ := hb0.cells2
  have hb0_l := hb0.lt
  go_enter Try.func5, Try.ntmps5
  go_wp2_with fail
  refine (szPuzzle_any k0 A0 n0 c0 (1048576) _ (by omega) (by omega) (by omega)).mono ?_
  rintro e v1 ⟨rfl, hb⟩
  rw [if_pos (by omega)]
  have hz1 : w.heap.size + 1 ≤ v1.heap.size := by have := hb.size; simpa using this
  replace ht := below_then ht hb ht.size
  replace hb0 := hb0.below hb
  clear hb
  clear hb0_0 hb0_1 hb0_l
  go_wp2
  go_ret
  exact ⟨rfl, ht⟩

set_option maxHeartbeats 12800000 in
set_option maxRecDepth 100000 in
set_option linter.unusedSimpArgs false in
set_option linter.unusedVariables false in
theorem lawSureTimes_small (k0 : Int) (A0 : Option Addr) (n0 c0 : Nat) (x0 : List Cl) (w : World) (h0 : Holds w A0 (clsC x0)) (hx0 : x0.length = n0) (hn0 : n0 ≤ 9223372036854775807) (g0 : 0 ≤ 1048576 - (n0 : Int)) :
    Calls Try.prog 5 #[.agg #[.int .i64 k0, .slice A0 n0 c0]] w fun e w' => e = .returned (.bool true) ∧ Below w.heap.size w w' := by
  have hb0 := (Whole.fresh w 32 #[.int .i64 k0, .slice A0 n0 c0])
  have ht := below1 w (.cells #[.int .i64 k0, .slice A0 n0 c0] 32)
  have HX0 := Lib.hid hx0
  clear hx0
  have hlen : ((sureI k0 x0)).length ≤ 1048576 := sureI_le _ _
  obtain ⟨hb0_0, hb0_1⟩ := hb0.cells2
  have hb0_l := hb0.lt
  go_enter Try.func5, Try.ntmps5
  -- region 2
  go_wp2_with fail
  refine (szPuzzle_any k0 A0 n0 c0 (1048576) _ (by omega) (by omega) (by omega)).mono ?_
  rintro e v1 ⟨rfl, hb⟩
  rw [if_neg (by omega)]
  have hz1 : w.heap.size + 1 ≤ v1.heap.size := by have := hb.size; simpa using this
  replace ht := below_then ht hb ht.size
  replace hb0 := hb0.below hb
  clear hb
  clear hb0_0 hb0_1 hb0_l
  obtain ⟨hb0_0, hb0_1⟩ := hb0.cells2
  have hb0_l := hb0.lt
  -- region 5
  go_wp2_with fail
  refine (toPuzzle_own k0 A0 n0 c0 x0 _ (by exact h0.below ht) HX0.out (by omega)).mono ?_
  rintro e v2 ⟨gp0, rfl, hgp0, hwp0, hb⟩
  have hz2 : v1.heap.size ≤ v2.heap.size := by have := hb.size; simpa using this
  replace ht := below_then ht hb ht.size
  replace hb0 := hb0.below hb
  have hp0 := Fresh.of_whole (lo := v1.heap.size) (hi := v2.heap.size) hwp0 (by simpa using hgp0) hwp0.lt
  clear hgp0 hwp0
  clear hb
  clear hb0_0 hb0_1 hb0_l
  obtain ⟨hb0_0, hb0_1⟩ := hb0.cells2
  have hb0_l := hb0.lt
  go_wp2_with fail
  refine (specSureTimes_any k0 _ n0 _ x0 _ (by exact hp0.holds) HX0.out (by omega)).mono ?_
  rintro e v3 ⟨B0, q0, rfl, hF0, hb⟩
  have hz3 : v2.heap.size ≤ v3.heap.size := by have := hb.size; simpa using this
  replace ht := below_then ht hb ht.size
  replace hb0 := hb0.below hb
  replace hp0 := hp0.below hb
  replace hF0 := hF0.more (lo' := v2.heap.size) (hi' := v3.heap.size) (by simp) (Nat.le_refl _)
  clear hb
  clear hp0
  clear hb0_0 hb0_1 hb0_l
  obtain ⟨hb0_0, hb0_1⟩ := hb0.cells2
  have hb0_l := hb0.lt
  -- region 6
  go_wp2_with fail
  refine (toPuzzle_own k0 A0 n0 c0 x0 _ (by exact h0.below ht) HX0.out (by omega)).mono ?_
  rintro e v4 ⟨gx0, rfl, hgx0, hwx0, hb⟩
  have hz4 : v3.heap.size ≤ v4.heap.size := by have := hb.size; simpa using this
  replace ht := below_then ht hb ht.size
  replace hb0 := hb0.below hb
  replace hF0 := hF0.below hb
  have hx0 := Fresh.of_whole (lo := v3.heap.size) (hi := v4.heap.size) hwx0 (by simpa using hgx0) hwx0.lt
  clear hgx0 hwx0
  clear hb
  have hx90 := Whole.fresh v4 37 #[.int .i64 k0, .slice (some ⟨gx0, 0, none⟩) n0 n0]
  replace ht := ht.alloc ht.size (.cells #[.int .i64 k0, .slice (some ⟨gx0, 0, none⟩) n0 n0] 37)
  replace hb0 := hb0.alloc (.cells #[.int .i64 k0, .slice (some ⟨gx0, 0, none⟩) n0 n0] 37)
  replace hF0 := hF0.alloc (.cells #[.int .i64 k0, .slice (some ⟨gx0, 0, none⟩) n0 n0] 37)
  replace hx0 := hx0.alloc (.cells #[.int .i64 k0, .slice (some ⟨gx0, 0, none⟩) n0 n0] 37)
  clear hb0_0 hb0_1 hb0_l
  obtain ⟨hb0_0, hb0_1⟩ := hb0.cells2
  have hb0_l := hb0.lt
  obtain ⟨hx90_0, hx90_1⟩ := hx90.cells2
  have hx90_l := hx90.lt
  -- region 7
  go_wp2_with fail
  refine (implSureTimes_any k0 _ n0 _ x0 _ (by exact hx0.holds) HX0.out (by omega)).mono ?_
  rintro e v5 ⟨B1, q1, rfl, hF1, hb⟩
  have hz5 : v4.heap.size + 1 ≤ v5.heap.size := by have := hb.size; simpa using this
  replace ht := below_then ht hb ht.size
  replace hb0 := hb0.below hb
  replace hF0 := hF0.below hb
  replace hx0 := hx0.below hb
  replace hx90 := hx90.below hb
  replace hF1 := hF1.more (lo' := v4.heap.size + 1) (hi' := v5.heap.size) (by simp) (Nat.le_refl _)
  clear hb
  clear hb0_0 hb0_1 hb0_l hx90_0 hx90_1 hx90_l
  obtain ⟨hb0_0, hb0_1⟩ := hb0.cells2
  have hb0_l := hb0.lt
  obtain ⟨hx90_0, hx90_1⟩ := hx90.cells2
  have hx90_l := hx90.lt
  -- region 8
  go_wp2_with fail
  refine (eqIntS_yes B1 B0 ((sureI k0 x0)).length q1 q0 ((sureI k0 x0)) _ (by exact hF1.holds) (by exact hF0.holds) rfl (by omega)).mono ?_
  rintro e v6 ⟨rfl, hb⟩
  have hz6 : v5.heap.size ≤ v6.heap.size := by have := hb.size; simpa using this
  replace ht := below_then ht hb ht.size
  replace hb0 := hb0.below hb
  replace hF0 := hF0.below hb
  replace hx0 := hx0.below hb
  replace hx90 := hx90.below hb
  replace hF1 := hF1.below hb
  clear hb
  clear hb0_0 hb0_1 hb0_l hx90_0 hx90_1 hx90_l
  obtain ⟨hb0_0, hb0_1⟩ := hb0.cells2
  have hb0_l := hb0.lt
  obtain ⟨hx90_0, hx90_1⟩ := hx90.cells2
  have hx90_l := hx90.lt
  -- region 10
  clear hb0_0 hb0_1 hb0_l hx90_0 hx90_1 hx90_l
  go_wp2_with fail
  refine wp_region_held_drew (S := (fun w' => w'.cell? ⟨w.heap.size, 0, none⟩ = some (.int .i64 k0) ∧ w'.cell? ⟨w.heap.size, 1, none⟩ = some (.slice A0 n0 c0) ∧ w'.cell? ⟨v4.heap.size, 0, none⟩ = some (.int .i64 k0) ∧ w'.cell? ⟨v4.heap.size, 1, none⟩ = some (.slice (some ⟨gx0, 0, none⟩) n0 n0))) (by kernel_rfl) ⟨hb0.drew.cell 0, hb0.drew.cell 1, hx90.drew.cell 0, hx90.drew.cell 1⟩ (fun hHeld => ?_)
  replace ht := ht.drew
  replace hb0 := hb0.drew
  replace hF0 := hF0.drew
  replace hx0 := hx0.drew
  replace hx90 := hx90.drew
  replace hF1 := hF1.drew
  refine wpAnyH_take (i := 0) (v := ?_) rfl (by kernel_rfl) (by kernel_rfl) (by kernel_rfl) (fun _ _ _ h => h) (Or.inl ⟨rfl, ?_⟩) hHeld ?_
  rotate_left
  · intro w' hS; obtain ⟨s0, s1, s2, s3⟩ := hS; go_simp <;> with_reducible rfl
  simp only [Act.put, List.getElem_toArray, List.getElem_cons_succ, List.getElem_cons_zero, List.setIfInBounds_toArray, List.set_cons_succ, List.set_cons_zero]
  refine wpAnyH_take (i := 1) (v := ?_) rfl (by kernel_rfl) (by kernel_rfl) (by kernel_rfl) (fun _ _ _ h => h) (Or.inl ⟨rfl, ?_⟩) hHeld ?_
  rotate_left
  · intro w' hS; obtain ⟨s0, s1, s2, s3⟩ := hS; go_simp <;> with_reducible rfl
  simp only [Act.put, List.getElem_toArray, List.getElem_cons_succ, List.getElem_cons_zero, List.setIfInBounds_toArray, List.set_cons_succ, List.set_cons_zero]
  refine wpAnyH_ready (rs := [2]) (by kernel_rfl) (by simp) (AllReadyH.cons rfl (fun K hK => ?_) AllReadyH.nil)
  go_simp
  refine (toPuzzle_own k0 A0 n0 c0 x0 _ (by exact h0.below ht) HX0.out (by omega)).mono ?_
  rintro e v7 ⟨gy0, rfl, hgy0, hwy0, hb⟩
  have hz7 : v6.heap.size ≤ v7.heap.size := by have := hb.size; simpa using this
  replace ht := below_then ht hb ht.size
  replace hb0 := hb0.below hb
  replace hF0 := hF0.below hb
  replace hx0 := hx0.below hb
  replace hx90 := hx90.below hb
  replace hF1 := hF1.below hb
  have hy0 := Fresh.of_whole (lo := v6.heap.size) (hi := v7.heap.size) hwy0 (by simpa using hgy0) hwy0.lt
  clear hgy0 hwy0
  clear hb
  refine hK.out _ _ ⟨hb0.cell 0, hb0.cell 1, hx90.cell 0, hx90.cell 1⟩ (fun hHeld => ?_)
  clear hK K
  try simp only [Act.put, List.getElem_toArray, List.getElem_cons_succ, List.getElem_cons_zero, List.setIfInBounds_toArray, List.set_cons_succ, List.set_cons_zero]
  refine wpAnyH_ready (rs := [3]) (by kernel_rfl) (by simp) (AllReadyH.cons rfl (fun K hK => ?_) AllReadyH.nil)
  go_simp
  refine (eqPuzzle_yes _ _ n0 _ _ x0 k0 _ (by exact hx0.holds) (by exact hy0.holds) HX0.out (by omega)).mono ?_
  rintro e v8 ⟨rfl, hb⟩
  have hz8 : v7.heap.size ≤ v8.heap.size := by have := hb.size; simpa using this
  replace ht := below_then ht hb ht.size
  replace hb0 := hb0.below hb
  replace hF0 := hF0.below hb
  replace hx0 := hx0.below hb
  replace hx90 := hx90.below hb
  replace hF1 := hF1.below hb
  replace hy0 := hy0.below hb
  clear hb
  clear hy0
  refine hK.out _ _ ⟨hb0.cell 0, hb0.cell 1, hx90.cell 0, hx90.cell 1⟩ (fun hHeld => ?_)
  clear hK K
  try simp only [Act.put, List.getElem_toArray, List.getElem_cons_succ, List.getElem_cons_zero, List.setIfInBounds_toArray, List.set_cons_succ, List.set_cons_zero]
  refine wpAnyH_take (i := 4) (v := ?_) rfl (by kernel_rfl) (by kernel_rfl) (by kernel_rfl) (fun _ _ _ h => h) (Or.inl ⟨rfl, ?_⟩) hHeld ?_
  rotate_left
  · intro w' hS; obtain ⟨s0, s1, s2, s3⟩ := hS; go_simp <;> with_reducible rfl
  simp only [Act.put, List.getElem_toArray, List.getElem_cons_succ, List.getElem_cons_zero, List.setIfInBounds_toArray, List.set_cons_succ, List.set_cons_zero]
  refine wpAnyH_done (by kernel_rfl) ?_ _
  clear hHeld
  obtain ⟨hb0_0, hb0_1⟩ := hb0.cells2
  have hb0_l := hb0.lt
  obtain ⟨hx90_0, hx90_1⟩ := hx90.cells2
  have hx90_l := hx90.lt
  -- region 13
  go_wp2_with fail
  refine (markPuzzle_any k0 (some ⟨gx0, 0, none⟩) n0 n0 _ _ x0 (1) _ hx0 HX0.out (by omega) (by omega) (by omega)).mono ?_
  rintro e v9 ⟨rfl, hs, -⟩
  have hsz := ht.size
  replace ht := hs.below ht (by omega) hsz
  replace hb0 := hs.whole hb0 (by omega)
  replace hF0 := hs.fresh hF0 (by omega)
  replace hF1 := hs.fresh hF1 (by omega)
  clear hs hsz hx0 hx90
  have hk_1 : (0 : Int) ≤ 1 + ((n0 * 3 : Nat) : Int) := by omega
  clear hb0_0 hb0_1 hb0_l hx90_0 hx90_1 hx90_l
  obtain ⟨hb0_0, hb0_1⟩ := hb0.cells2
  have hb0_l := hb0.lt
  -- region 14
  go_wp2_with fail
  refine (eqIntS_yes B1 B0 ((sureI k0 x0)).length q1 q0 ((sureI k0 x0)) _ (by exact hF1.holds) (by exact hF0.holds) rfl (by omega)).mono ?_
  rintro e v10 ⟨rfl, hb⟩
  have hz10 : v9.heap.size ≤ v10.heap.size := by have := hb.size; simpa using this
  replace ht := below_then ht hb ht.size
  replace hb0 := hb0.below hb
  replace hF0 := hF0.below hb
  replace hF1 := hF1.below hb
  clear hb
  clear hb0_0 hb0_1 hb0_l
  obtain ⟨hb0_0, hb0_1⟩ := hb0.cells2
  have hb0_l := hb0.lt
  -- region 17
  go_wp2_with fail
  refine (markIntS_any B1 ((sureI k0 x0)).length q1 _ _ _ 1 _ hF1 (by rw [nums_len]) (by omega) (by omega) hlen).mono ?_
  rintro e v11 ⟨rfl, hs, hM⟩
  have hsz := ht.size
  replace ht := hs.below ht (by omega) hsz
  replace hb0 := hs.whole hb0 (by omega)
  replace hF0 := hs.fresh hF0 (by omega)
  clear hs hF1 hsz
  clear hb0_0 hb0_1 hb0_l
  obtain ⟨hb0_0, hb0_1⟩ := hb0.cells2
  have hb0_l := hb0.lt
  -- region 19
  go_wp2_with fail
  refine (heldIntS_any B1 ((sureI k0 x0)).length q1 1 _ (by exact hM.holds) (by omega) (by omega) hlen).mono ?_
  rintro e v12 ⟨rfl, rfl⟩
  have hm0 : (0 : Int) ≤ 1 + (((sureI k0 x0)).length : Int) := by omega
  clear hb0_0 hb0_1 hb0_l
  obtain ⟨hb0_0, hb0_1⟩ := hb0.cells2
  have hb0_l := hb0.lt
  -- region 24
  go_wp2_with fail
  refine (toPuzzle_own k0 A0 n0 c0 x0 _ (by exact h0.below ht) HX0.out (by omega)).mono ?_
  rintro e v12 ⟨gr0, rfl, hgr0, hwr0, hb⟩
  have hz12 : v11.heap.size ≤ v12.heap.size := by have := hb.size; simpa using this
  replace ht := below_then ht hb ht.size
  replace hb0 := hb0.below hb
  replace hF0 := hF0.below hb
  replace hM := hM.below hb
  have hr0 := Fresh.of_whole (lo := v11.heap.size) (hi := v12.heap.size) hwr0 (by simpa using hgr0) hwr0.lt
  clear hgr0 hwr0
  clear hb
  clear hb0_0 hb0_1 hb0_l
  obtain ⟨hb0_0, hb0_1⟩ := hb0.cells2
  have hb0_l := hb0.lt
  go_wp2_with fail
  refine (implSureTimes_any k0 _ n0 _ x0 _ (by exact hr0.holds) HX0.out (by omega)).mono ?_
  rintro e v13 ⟨B2, q2, rfl, hF2, hb⟩
  have hz13 : v12.heap.size ≤ v13.heap.size := by have := hb.size; simpa using this
  replace ht := below_then ht hb ht.size
  replace hb0 := hb0.below hb
  replace hF0 := hF0.below hb
  replace hM := hM.below hb
  replace hr0 := hr0.below hb
  replace hF2 := hF2.more (lo' := v12.heap.size) (hi' := v13.heap.size) (by simp) (Nat.le_refl _)
  clear hb
  clear hr0
  clear hb0_0 hb0_1 hb0_l
  obtain ⟨hb0_0, hb0_1⟩ := hb0.cells2
  have hb0_l := hb0.lt
  -- region 25
  go_wp2_with fail
  refine (eqIntS_yes B2 B0 ((sureI k0 x0)).length q2 q0 ((sureI k0 x0)) _ (by exact hF2.holds) (by exact hF0.holds) rfl (by omega)).mono ?_
  rintro e v14 ⟨rfl, hb⟩
  have hz14 : v13.heap.size ≤ v14.heap.size := by have := hb.size; simpa using this
  replace ht := below_then ht hb ht.size
  replace hb0 := hb0.below hb
  replace hF0 := hF0.below hb
  replace hM := hM.below hb
  replace hF2 := hF2.below hb
  clear hb
  clear hb0_0 hb0_1 hb0_l
  obtain ⟨hb0_0, hb0_1⟩ := hb0.cells2
  have hb0_l := hb0.lt
  -- region 28
  go_wp2_with fail
  refine (heldIntS_any B1 ((sureI k0 x0)).length q1 1 _ (by exact hM.holds) (by omega) (by omega) hlen).mono ?_
  rintro e v15 ⟨rfl, rfl⟩
  clear hb0_0 hb0_1 hb0_l
  obtain ⟨hb0_0, hb0_1⟩ := hb0.cells2
  have hb0_l := hb0.lt
  go_wp2
  go_ret
  exact ⟨rfl, ht⟩

theorem lawSureTimes_all (k0 : Int) (A0 : Option Addr) (n0 c0 : Nat) (x0 : List Cl) (w : World) (h0 : Holds w A0 (clsC x0)) (hx0 : x0.length = n0) (hn0 : n0 ≤ 9223372036854775807) :
    Calls Try.prog 5 #[.agg #[.int .i64 k0, .slice A0 n0 c0]] w fun e w' => e = .returned (.bool true) ∧ Below w.heap.size w w' := by
  rcases (inferInstance : Decidable (0 ≤ 1048576 - (n0 : Int))) with g0 | g0
  · exact lawSureTimes_big0 k0 A0 n0 c0 x0 w h0 hx0 hn0  (by omega)
  exact lawSureTimes_small k0 A0 n0 c0 x0 w h0 hx0 hn0 g0
end Go.Proofs.Ytgojakcepbdajaa
