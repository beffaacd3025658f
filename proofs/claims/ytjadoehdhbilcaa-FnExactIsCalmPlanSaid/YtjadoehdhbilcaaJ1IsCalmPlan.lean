/-
  What is proved: a contract of the model's IsCalmPlan. Conditions: the arguments are read as they lie.
  What is proved: the contract of the program's test whether lists lead over, for rivers of companies. Conditions: the lists are read as they lie.
  What is proved: a contract of the program's IsCalmPlan. Conditions: the arguments are read as they lie.
  What is proved: the law FnExactIsCalmPlan returns true at every argument, and leaves all that was there as it was. Conditions: the arguments are read as they lie.
-/
import Derived.Deep.RegionHeld3
import Derived.Test.YtjadoehdhbilcaaJ7FirstRows
set_option linter.unusedSimpArgs false
set_option linter.unusedVariables false
namespace Go.Proofs.Ytjadoehdhbilcaa
open Go.RowKit

/-- What IsCalmPlan hands back. -/
def TwoTold (a b : Bool) (w : World) (e : Ending) (w' : World) : Prop := e = .returned (.tuple #[.bool a, .bool b]) ∧ Below w.heap.size w w'
def cpOk (a b : Int) (ls : List (List Int)) : Bool := isCo a b && decide (ls.length ≤ 40)
noncomputable def isCP (a b : Int) (ls : List (List Int)) : Bool := cpOk a b ls && planM a.toNat b (2 * 2 ^ (2 * a.toNat) - 1) 0 ls
theorem cp_no {a b : Int} {ls : List (List Int)} (h : isCo a b = false ∨ 40 < ls.length) : cpOk a b ls = false ∧ isCP a b ls = false := by
  have h0 : cpOk a b ls = false := by
    rcases h with h | h
    · simp [cpOk, h]
    · simp [cpOk]; omega
  exact ⟨h0, by simp [isCP, h0]⟩
theorem cp_yes {k : Nat} {b : Int} {ls : List (List Int)} (h : isCo k b = true) (h40 : ls.length ≤ 40) : cpOk k b ls = true ∧ isCP k b ls = planM k b (2 * 2 ^ (2 * k) - 1) 0 ls := by
  have h0 : cpOk k b ls = true := by simp [cpOk, h, h40]
  exact ⟨h0, by simp [isCP, h0]⟩

set_option maxHeartbeats 800000 in
set_option maxRecDepth 100000 in
theorem specIsCalmPlan_any (D : Option Addr) (n z : Nat) (a b : Int) (rs : List RowV) (w : World) (hD : Grid w D rs) (hz : rs.length = n) (hn : n ≤ 9223372036854775807) :
    Calls Try.prog 28 #[.agg #[.int .i64 a, .int .i64 b], .slice D n z] w (TwoTold (isCP a b (rowNums rs)) (cpOk a b (rowNums rs)) w) := by
  have HZ := Lib.hid hz
  have HLS := Lib.hid (rowNums_len rs)
  have hD2 := hD.alloc (.cells #[.int .i64 a, .int .i64 b] 31)
  have h0 := Whole.fresh w 31 #[.int .i64 a, .int .i64 b]
  have hbw := below1 w (.cells #[.int .i64 a, .int .i64 b] 31)
  clear hz
  cases hp : isCo a b
  · have HP := Lib.hid hp
    have HF := Lib.hid (cp_no (ls := rowNums rs) (.inl hp))
    clear hp
    go_enter Try.func28, Try.ntmps28
    go_wp2_with fail
    refine (cuGood_any a b _).mono ?_
    rintro e w1 ⟨rfl, hb⟩
    rw [HP.out]
    have ht := below_then hbw hb (by simp)
    clear hb
    go_wp2
    go_ret2
    exact ⟨by rw [HF.out.1, HF.out.2]; rfl, ht⟩
  · have HP := Lib.hid hp
    obtain ⟨⟨ha1, ha4⟩, hb1, hb4⟩ := isCo_iff.1 hp
    obtain ⟨k, rfl⟩ : ∃ k : Nat, a = k := ⟨a.toNat, by omega⟩
    have hk : k ≤ 4 := by omega
    by_cases h40 : 40 < n
    · have hd : decide ((n : Int) > 40) = true := by simp; omega
      have HF := Lib.hid (cp_no (a := k) (b := b) (ls := rowNums rs) (.inr (by have := HLS.out; have := HZ.out; omega)))
      clear hp
      go_enter Try.func28, Try.ntmps28
      go_wp2_with fail
      refine (cuGood_any k b _).mono ?_
      rintro e w1 ⟨rfl, hb⟩
      rw [HP.out]
      have ht := below_then hbw hb (by simp)
      clear hb
      go_wp2
      go_ret2
      exact ⟨by rw [HF.out.1, HF.out.2]; rfl, ht⟩
    · have hd : decide ((n : Int) > 40) = false := by simp; omega
      have HF := Lib.hid (cp_yes (ls := rowNums rs) hp (by have := HLS.out; have := HZ.out; omega))
      clear hp
      go_enter Try.func28, Try.ntmps28
      go_wp2_with fail
      refine (cuGood_any k b _).mono ?_
      rintro e w1 ⟨rfl, hb⟩
      rw [HP.out]
      have ht := below_then hbw hb (by simp)
      have hD3 := hD2.below hb
      obtain ⟨c0, c1, -, -⟩ := (h0.below hb).two
      clear hb
      go_wp2_with fail
      refine (cuPlan_any k b D n z rs _ hk hD3 HZ.out hn).mono ?_
      rintro e w2 ⟨rfl, hb⟩
      replace ht := below_then ht hb ht.size
      clear hb c0 c1
      go_wp2
      go_ret2
      exact ⟨by rw [HF.out.1, HF.out.2]; rfl, ht⟩
end Go.Proofs.Ytjadoehdhbilcaa

namespace Go.Proofs.Ytjadoehdhbilcaa
open Go.RowKit

set_option maxHeartbeats 12800000 in
set_option maxRecDepth 100000 in
theorem leadsOver_any (k q gG gC g1 g3 g4 g : Nat) (A : Option Addr) (c : Nat) (D : Option Addr) (n z : Nat) (rs : List RowV) (w : World) (hk : k ≤ 4) (hF : RowsFn w k gG gC g1 g3 g4 g A c (groupsOf k q)) (hD : Grid w D rs) (hz : rs.length = n) (hn : n ≤ 9223372036854775807) (h40 : n ≤ 1048576) :
    Calls Try.prog 63 #[.agg (riverCells k gG gC), .slice D n z] w fun e w' => e = .returned (.bool (playP k q (falses (2 * k)) false (rowNums rs))) ∧ Below w.heap.size w w' := by
  have HZ := Lib.hid hz
  have HLS := Lib.hid (rowNums_len rs)
  obtain ⟨Q, hP⟩ : ∃ Q : Bool, Q = playP k q (falses (2 * k)) false (rowNums rs) := ⟨_, rfl⟩
  have HPP := Lib.hid hP
  rw [← hP]
  clear hz hP
  have HRF := Lib.hid hF
  have HR0 := Lib.hid (Whole.fresh w 74 (riverCells k gG gC))
  have HB0 := Lib.hid (below1 w (.cells (riverCells k gG gC) 74))
  have hw0 := HR0.out.lt
  go_enter Try.func63, Try.ntmps63
  go_upto_region 1 with fail
  generalize World.alloc w (.cells (riverCells k gG gC) 74) = W0 at HR0 HB0 hw0 ⊢
  have e0 : W0.cell? ⟨w.heap.size, 0, none⟩ = some (.bool false) := HR0.out.cell 0
  have e1 : W0.cell? ⟨w.heap.size, 1, none⟩ = some (.bool false) := HR0.out.cell 1
  have e2 : W0.cell? ⟨w.heap.size, 2, none⟩ = some (.bool false) := HR0.out.cell 2
  have e3 : W0.cell? ⟨w.heap.size, 3, none⟩ = some (.bool false) := HR0.out.cell 3
  have e4 : W0.cell? ⟨w.heap.size, 4, none⟩ = some (.bool false) := HR0.out.cell 4
  have e5 : W0.cell? ⟨w.heap.size, 5, none⟩ = some (.bool false) := HR0.out.cell 5
  have e6 : W0.cell? ⟨w.heap.size, 6, none⟩ = some (.bool false) := HR0.out.cell 6
  have e7 : W0.cell? ⟨w.heap.size, 7, none⟩ = some (.bool false) := HR0.out.cell 7
  have e8 : W0.cell? ⟨w.heap.size, 8, none⟩ = some (.bool false) := HR0.out.cell 8
  go_upto_region 2 with (refine wpList_store_whole rfl 68 (.tmp 5) (.tmp 11) rfl W0.heap.size (placeCells [] false) rfl rfl 68 _ (Whole.fresh _ _ _) size_place rfl (place_one _ _) ?_; intro W3 hw3 ho3)
  have hne : w.heap.size ≠ W0.heap.size := by omega
  have HR3 := Lib.hid (ho3.whole (HR0.out.alloc _) hne)
  have HB3 := Lib.hid (ho3.below (HB0.out.alloc HB0.out.size _) (by omega))
  rw [← place_falses (2 * k)] at hw3
  have HW3 := Lib.hid hw3
  clear hw3 ho3 e0 e1 e2 e3 e4 e5 e6 e7 e8
  go_wp2_with fail
  go_loopw [14] (fun i wr => ∃ (j : Nat) (bs : List Bool) (t : Bool), j ≤ n ∧ i = .int .i64 j ∧ bs.length = 2 * k ∧ Q = playP k q bs t ((rowNums rs).drop j) ∧ Whole wr w.heap.size 74 (riverCells k gG gC) ∧ Whole wr W0.heap.size 68 (placeCells bs t) ∧ Below w.heap.size w wr) (fun i _ => n - (intOf i).toNat)
  case atStart => exact ⟨0, falses (2 * k), false, Nat.zero_le _, rfl, falses_len _, HPP.out, HR3.out, HW3.out, HB3.out⟩
  case round =>
    obtain ⟨j, bs, t, hj, rfl, hbs, hpl, hR, hPl, hb⟩ := hrel
    have HBS := Lib.hid hbs
    have HPL := Lib.hid hpl
    have HR := Lib.hid hR
    have HPC := Lib.hid hPl
    have HB := Lib.hid hb
    have hpll := hPl.lt
    clear hbs hpl
    by_cases hlt : j < n
    · have hlt' : j < rs.length := by have := HZ.out; omega
      have hlj : j < (rowNums rs).length := by rw [HLS.out]; exact hlt'
      have hDr := hD.below hb
      obtain ⟨b, o, rfl, hbl, hcell, hrow, hrl, hrn⟩ := hDr.look hlt'
      have HRW := Lib.hid hrow
      have HRL := Lib.hid hrl
      have HGT : Hid ((rowNums rs)[j] = rs[j].xs) := by show _ = _; simp [rowNums]
      clear hR hPl hb hDr hrow hrl
      go_wp2_with (first | (refine wpList_load_row rfl 74 (.tmp 2) rfl w.heap.size rfl 74 (riverCells k gG gC) (0, 0) _ HR.out Try.underlying74 rfl size_river ?_) | (refine wpList_load_row rfl 68 (.tmp 5) rfl W0.heap.size rfl 68 (placeCells bs t) (0, 0) _ HPC.out Try.underlying68 rfl size_place ?_))
      refine (stateBehind_any k q gG gC g1 g3 g4 g A _ c _ _ bs t rs[j].xs _ hk HBS.out (HRF.out.below HB.out) HRW.out HRL.out hrn).mono ?_
      rintro e w4 ⟨⟨hmem, rfl⟩ | ⟨hmem, rfl⟩, hb4⟩
      · have HNX : Hid (Q = playP k q (flipped bs rs[j].xs) (!t) ((rowNums rs).drop (j + 1))) := by
          show _ = _
          rw [HPL.out, play_next hlj (by rw [HGT.out]; exact hmem), HGT.out]
        have hPl4 := HPC.out.below hb4
        have hp4 := hPl4.lt
        have hR4 := HR.out.below hb4
        have HB4 := Lib.hid (below_then HB.out hb4 HB.out.size)
        have hn4 : W0.heap.size ≠ w4.heap.size := by omega
        have hn4' : w.heap.size ≠ w4.heap.size := by omega
        have HP4 := Lib.hid hPl4
        have HR4 := Lib.hid hR4
        clear hmem hb4 hcell hPl4 hR4
        go_upto_region 6 with (refine wpList_store_whole rfl 68 (.tmp 8) (.tmp 23) rfl w4.heap.size (placeCells (flipped bs rs[j].xs) (!t)) rfl rfl 68 _ (Whole.fresh _ _ _) size_place rfl (place_one _ _) ?_; intro W5 hw5 ho5)
        have HW5 := Lib.hid hw5
        have HP5 := Lib.hid (ho5.whole (HP4.out.alloc _) hn4)
        have HR5 := Lib.hid (ho5.whole (HR4.out.alloc _) hn4')
        have HB5 := Lib.hid (ho5.below (HB4.out.alloc HB4.out.size _) HB4.out.size)
        clear hw5 ho5
        go_upto_region 9 with (first | (refine wpList_load_row rfl 68 (.tmp 8) rfl w4.heap.size rfl 68 (placeCells (flipped bs rs[j].xs) (!t)) (0, 0) _ HW5.out Try.underlying68 rfl size_place ?_) | (refine wpList_store_whole rfl 68 (.tmp 5) (.tmp 27) rfl W0.heap.size (placeCells (flipped bs rs[j].xs) (!t)) rfl rfl 68 _ HP5.out size_place rfl (place_one _ _) ?_; intro W6 hw6 ho6))
        have HW6 := Lib.hid hw6
        have HR6 := Lib.hid (ho6.whole HR5.out hne)
        have HB6 := Lib.hid (ho6.below HB5.out (by omega))
        clear hw6 ho6
        go_wp2
        go_roundw
        case measure => simp [intOf]; omega
        case rel => exact ⟨j + 1, flipped bs rs[j].xs, !t, by omega, by go_num, by rw [flipped_len]; exact HBS.out, HNX.out, HR6.out, HW6.out, HB6.out⟩
      · have HST : Hid (Q = false) := by show _ = _; rw [HPL.out]; exact play_stop hlj (by rw [HGT.out]; exact hmem)
        have HB4 := Lib.hid (below_then HB.out hb4 HB.out.size)
        clear hmem hb4 hcell
        go_upto_region 6 with (refine wpList_store_whole rfl 68 (.tmp 8) (.tmp 23) rfl w4.heap.size (placeCells bs t) rfl rfl 68 _ (Whole.fresh _ _ _) size_place rfl (place_one _ _) ?_; intro W5 hw5 ho5)
        have HB5 := Lib.hid (ho5.below (HB4.out.alloc HB4.out.size _) HB4.out.size)
        clear hw5 ho5
        go_wp2
        go_ret
        exact ⟨by rw [HST.out]; rfl, HB5.out⟩
    · have hje : j = n := by omega
      obtain ⟨f, hf⟩ : ∃ f : Nat → Bool, f = fun i => bs.getD i false := ⟨_, rfl⟩
      obtain ⟨u, hu⟩ : ∃ u : Nat → Bool, u = firstN (2 * k) := ⟨_, rfl⟩
      have HEN : Hid (Q = samePlace (f 0) (f 1) (f 2) (f 3) (f 4) (f 5) (f 6) (f 7) t (u 0) (u 1) (u 2) (u 3) (u 4) (u 5) (u 6) (u 7) true) := by
        show _ = _
        have h := sameBits_ext (bs := bs) (cs := trues (2 * k)) (HBS.out.trans (trues_len _).symm) (by have := HBS.out; omega)
        simp only [trues_at] at h
        rw [HPL.out, List.drop_eq_nil_of_le (by rw [HLS.out]; have := HZ.out; omega), playP]
        simp only [samePlace, hf, hu, h]
        simp
      rw [place_nine9, ← hf] at hPl
      obtain ⟨p0, p1, p2, p3, p4, p5, p6, p7⟩ := row8_of hPl
      have p8 : wr.cell? ⟨W0.heap.size, 8, none⟩ = some (.bool t) := hPl.cell 8
      have r0 : wr.cell? ⟨w.heap.size, 9, none⟩ = some (.bool (u 0)) := by rw [hu]; exact hR.cell 9
      have r1 : wr.cell? ⟨w.heap.size, 10, none⟩ = some (.bool (u 1)) := by rw [hu]; exact hR.cell 10
      have r2 : wr.cell? ⟨w.heap.size, 11, none⟩ = some (.bool (u 2)) := by rw [hu]; exact hR.cell 11
      have r3 : wr.cell? ⟨w.heap.size, 12, none⟩ = some (.bool (u 3)) := by rw [hu]; exact hR.cell 12
      have r4 : wr.cell? ⟨w.heap.size, 13, none⟩ = some (.bool (u 4)) := by rw [hu]; exact hR.cell 13
      have r5 : wr.cell? ⟨w.heap.size, 14, none⟩ = some (.bool (u 5)) := by rw [hu]; exact hR.cell 14
      have r6 : wr.cell? ⟨w.heap.size, 15, none⟩ = some (.bool (u 6)) := by rw [hu]; exact hR.cell 15
      have r7 : wr.cell? ⟨w.heap.size, 16, none⟩ = some (.bool (u 7)) := by rw [hu]; exact hR.cell 16
      have r8 : wr.cell? ⟨w.heap.size, 17, none⟩ = some (.bool true) := hR.cell 17
      clear hR hPl hb hje hf hu
      go_wp2
      go_ret
      exact ⟨by rw [HEN.out]; rfl, HB.out⟩
end Go.Proofs.Ytjadoehdhbilcaa

namespace Go.Proofs.Ytjadoehdhbilcaa
open Go.RowKit

set_option maxHeartbeats 12800000 in
set_option maxRecDepth 100000 in
theorem implIsCalmPlan_any (D : Option Addr) (n z : Nat) (a b : Int) (rs : List RowV) (w : World) (hD : Grid w D rs) (hz : rs.length = n) (hn : n ≤ 9223372036854775807) :
    Calls Try.prog 30 #[.agg #[.int .i64 a, .int .i64 b], .slice D n z] w (TwoTold (isCP a b (rowNums rs)) (cpOk a b (rowNums rs)) w) := by
  have HZ := Lib.hid hz
  have HLS := Lib.hid (rowNums_len rs)
  have hD2 := hD.alloc (.cells #[.int .i64 a, .int .i64 b] 31)
  have h0 := Whole.fresh w 31 #[.int .i64 a, .int .i64 b]
  have hbw := below1 w (.cells #[.int .i64 a, .int .i64 b] 31)
  clear hz
  cases hp : isCo a b
  · have HP := Lib.hid hp
    have HF := Lib.hid (cp_no (ls := rowNums rs) (.inl hp))
    clear hp
    go_enter Try.func30, Try.ntmps30
    go_wp2_with fail
    refine (isCompany_any a b _).mono ?_
    rintro e w1 ⟨rfl, hb⟩
    rw [HP.out]
    have ht := below_then hbw hb (by simp)
    clear hb
    go_wp2
    go_ret2
    exact ⟨by rw [HF.out.1, HF.out.2]; rfl, ht⟩
  obtain ⟨⟨ha1, ha4⟩, hb1, hb4⟩ := isCo_iff.1 hp
  obtain ⟨k, rfl⟩ : ∃ k : Nat, a = k := ⟨a.toNat, by omega⟩
  obtain ⟨q, rfl⟩ : ∃ q : Nat, b = q := ⟨b.toNat, by omega⟩
  have HP := Lib.hid hp
  have hk : k ≤ 4 := by omega
  have hq : q ≤ 4 := by omega
  by_cases h40 : 40 < n
  · have hd : decide ((n : Int) > 40) = true := by simp; omega
    have HF := Lib.hid (cp_no (a := k) (b := q) (ls := rowNums rs) (.inr (by have := HLS.out; have := HZ.out; omega)))
    clear hp
    go_enter Try.func30, Try.ntmps30
    go_wp2_with fail
    refine (isCompany_any k q _).mono ?_
    rintro e w1 ⟨rfl, hb⟩
    rw [HP.out]
    have ht := below_then hbw hb (by simp)
    clear hb
    go_wp2
    go_ret2
    exact ⟨by rw [HF.out.1, HF.out.2]; rfl, ht⟩
  have hd : decide ((n : Int) > 40) = false := by simp; omega
  obtain ⟨P, hP⟩ : ∃ P : Bool, P = playP k q (falses (2 * k)) false (rowNums rs) := ⟨_, rfl⟩
  have HF : Hid (cpOk k q (rowNums rs) = true ∧ isCP k q (rowNums rs) = P) := by
    have h := cp_yes (ls := rowNums rs) hp (by have := HLS.out; have := HZ.out; omega)
    refine ⟨h.1, ?_⟩
    rw [h.2, hP, ← plan_play hk _ _ _ (falses_len _), code_first]
  have HPP := Lib.hid hP
  clear hp hP
  go_enter Try.func30, Try.ntmps30
  go_wp2_with fail
  refine (isCompany_any k q _).mono ?_
  rintro e w0 ⟨rfl, hb⟩
  rw [HP.out]
  have ht := below_then hbw hb (by simp)
  have hD3 := hD2.below hb
  obtain ⟨c0, c1, -, -⟩ := (h0.below hb).two
  clear hb
  go_wp2_with fail
  refine (companyRiver_any k q _ hk hq).mono ?_
  rintro e w1 ⟨gG, gC, g1, g3, g4, g, A, c, rfl, hF, hb⟩
  have HT := Lib.hid (below_then ht hb ht.size)
  have HD := Lib.hid (hD3.below hb)
  have HRF := Lib.hid hF
  clear ht hb hF hD3 hD2 c0 c1 h0 hbw
  go_wp2_with fail
  refine (leadsOver_any k q gG gC g1 g3 g4 g A c D n z rs w1 hk HRF.out HD.out HZ.out hn (by omega)).mono ?_
  rintro e w2 ⟨rfl, hb⟩
  rw [← HPP.out]
  go_wp2
  go_ret2
  exact ⟨by rw [HF.out.1, HF.out.2]; rfl, below_then HT.out hb HT.out.size⟩
theorem specIsCalmPlan_on (D : Option Addr) (n z : Nat) (a b : Int) (rs : List RowV) (ls : List (List Int)) (w : World) (hD : Grid w D rs) (he : rowNums rs = ls) (hz : rs.length = n) (hn : n ≤ 9223372036854775807) :
    Calls Try.prog 28 #[.agg #[.int .i64 a, .int .i64 b], .slice D n z] w (TwoTold (isCP a b ls) (cpOk a b ls) w) := by
  subst he
  exact specIsCalmPlan_any D n z a b rs w hD hz hn
theorem implIsCalmPlan_on (D : Option Addr) (n z : Nat) (a b : Int) (rs : List RowV) (ls : List (List Int)) (w : World) (hD : Grid w D rs) (he : rowNums rs = ls) (hz : rs.length = n) (hn : n ≤ 9223372036854775807) :
    Calls Try.prog 30 #[.agg #[.int .i64 a, .int .i64 b], .slice D n z] w (TwoTold (isCP a b ls) (cpOk a b ls) w) := by
  subst he
  exact implIsCalmPlan_any D n z a b rs w hD hz hn
end Go.Proofs.Ytjadoehdhbilcaa

namespace Go.Proofs.Ytjadoehdhbilcaa
open Go.RowKit

set_option maxHeartbeats 800000 in
set_option linter.unusedVariables false in
theorem lawIsCalmPlan_big0 (k0 : Int) (k1 : Int) (A0 : Option Addr) (n0 c0 : Nat) (x0 : List RowV) (w : World) (h0 : Grid w A0 x0) (hx0 : x0.length = n0) (hn0 : n0 ≤ 9223372036854775807)  (hbig : 1048576 - (total x0 : Int) < 0) :
    Calls Try.prog 5 #[.agg #[.int .i64 k0, .int .i64 k1], .slice A0 n0 c0] w fun e w' => e = .returned (.bool true) ∧ Below w.heap.size w w' := by
  have hb0 := (Whole.fresh w 23 #[.int .i64 k0, .int .i64 k1])
  have ht := below1 w (.cells #[.int .i64 k0, .int .i64 k1] 23)
  have HX0 := Lib.hid hx0
  clear hx0
  obtain ⟨hb0_0, hb0_1⟩ := hb0.cells2
  have hb0_l := hb0.lt
  go_enter Try.func5, Try.ntmps5
  go_wp2_with fail
  refine (szIntSS_any A0 n0 c0 x0 (1048576) _ (by exact h0.below ht) HX0.out (by omega) (by omega) (by omega)).mono ?_
  rintro e v1 ⟨rfl, rfl⟩
  rw [totalLeft, if_pos (by omega)]
  clear hb0_0 hb0_1 hb0_l
  go_wp2
  go_ret
  exact ⟨rfl, ht⟩

set_option maxHeartbeats 12800000 in
set_option maxRecDepth 100000 in
set_option linter.unusedSimpArgs false in
set_option linter.unusedVariables false in
theorem lawIsCalmPlan_small (k0 : Int) (k1 : Int) (A0 : Option Addr) (n0 c0 : Nat) (x0 : List RowV) (w : World) (h0 : Grid w A0 x0) (hx0 : x0.length = n0) (hn0 : n0 ≤ 9223372036854775807) (g0 : 0 ≤ 1048576 - (total x0 : Int)) :
    Calls Try.prog 5 #[.agg #[.int .i64 k0, .int .i64 k1], .slice A0 n0 c0] w fun e w' => e = .returned (.bool true) ∧ Below w.heap.size w w' := by
  have hb0 := (Whole.fresh w 23 #[.int .i64 k0, .int .i64 k1])
  have ht := below1 w (.cells #[.int .i64 k0, .int .i64 k1] 23)
  have HX0 := Lib.hid hx0
  clear hx0
  obtain ⟨hb0_0, hb0_1⟩ := hb0.cells2
  have hb0_l := hb0.lt
  go_enter Try.func5, Try.ntmps5
  -- region 2
  go_wp2_with fail
  refine (szIntSS_any A0 n0 c0 x0 (1048576) _ (by exact h0.below ht) HX0.out (by omega) (by omega) (by omega)).mono ?_
  rintro e v1 ⟨rfl, rfl⟩
  rw [totalLeft, if_neg (by omega)]
  clear hb0_0 hb0_1 hb0_l
  obtain ⟨hb0_0, hb0_1⟩ := hb0.cells2
  have hb0_l := hb0.lt
  -- region 5
  go_wp2_with fail
  refine (toCompany_any k0 k1 _).mono ?_
  rintro e v1 ⟨rfl, hb⟩
  have hz1 : w.heap.size + 1 ≤ v1.heap.size := by have := hb.size; simpa using this
  replace ht := below_then ht hb ht.size
  replace hb0 := hb0.below hb
  clear hb
  clear hb0_0 hb0_1 hb0_l
  obtain ⟨hb0_0, hb0_1⟩ := hb0.cells2
  have hb0_l := hb0.lt
  go_wp2_with fail
  refine (toIntSS_any A0 n0 c0 x0 _ (by exact h0.below ht) HX0.out (by omega)).mono ?_
  rintro e v2 ⟨gp0, wsp0, rfl, hgp0, hwp0, hep0, hlp0, hb⟩
  have hz2 : v1.heap.size ≤ v2.heap.size := by have := hb.size; simpa using this
  replace ht := below_then ht hb ht.size
  replace hb0 := hb0.below hb
  have HEp0 := Lib.hid hep0
  have HLp0 := Lib.hid hlp0
  clear hep0 hlp0
  have hp0 := hwp0.free.more (lo' := v1.heap.size) (hi' := v2.heap.size) (by simpa using hgp0) (Nat.le_refl _)
  have hcapp0 : n0 ≤ 1048576 := by have := total_len x0; have := HX0.out; omega
  clear hgp0 hwp0
  clear hb
  clear hb0_0 hb0_1 hb0_l
  obtain ⟨hb0_0, hb0_1⟩ := hb0.cells2
  have hb0_l := hb0.lt
  go_wp2_with fail
  refine (specIsCalmPlan_on _ n0 _ k0 k1 wsp0 (rowNums x0) _ (by exact hp0.grid) HEp0.out HLp0.out (by omega)).mono ?_
  rintro e v3 ⟨rfl, hb⟩
  have hz3 : v2.heap.size ≤ v3.heap.size := by have := hb.size; simpa using this
  replace ht := below_then ht hb ht.size
  replace hb0 := hb0.below hb
  replace hp0 := hp0.below hb
  clear hb
  clear hp0
  clear hb0_0 hb0_1 hb0_l
  obtain ⟨hb0_0, hb0_1⟩ := hb0.cells2
  have hb0_l := hb0.lt
  -- region 6
  go_wp2_with fail
  refine (toIntSS_any A0 n0 c0 x0 _ (by exact h0.below ht) HX0.out (by omega)).mono ?_
  rintro e v4 ⟨gx0, wsx0, rfl, hgx0, hwx0, hex0, hlx0, hb⟩
  have hz4 : v3.heap.size ≤ v4.heap.size := by have := hb.size; simpa using this
  replace ht := below_then ht hb ht.size
  replace hb0 := hb0.below hb
  have HEx0 := Lib.hid hex0
  have HLx0 := Lib.hid hlx0
  clear hex0 hlx0
  have hx0 := hwx0.free.more (lo' := v3.heap.size) (hi' := v4.heap.size) (by simpa using hgx0) (Nat.le_refl _)
  have hcapx0 : n0 ≤ 1048576 := by have := total_len x0; have := HX0.out; omega
  clear hgx0 hwx0
  clear hb
  clear hb0_0 hb0_1 hb0_l
  obtain ⟨hb0_0, hb0_1⟩ := hb0.cells2
  have hb0_l := hb0.lt
  -- region 7
  go_wp2_with fail
  refine (toCompany_any k0 k1 _).mono ?_
  rintro e v5 ⟨rfl, hb⟩
  have hz5 : v4.heap.size ≤ v5.heap.size := by have := hb.size; simpa using this
  replace ht := below_then ht hb ht.size
  replace hb0 := hb0.below hb
  replace hx0 := hx0.below hb
  clear hb
  clear hb0_0 hb0_1 hb0_l
  obtain ⟨hb0_0, hb0_1⟩ := hb0.cells2
  have hb0_l := hb0.lt
  go_wp2_with fail
  refine (implIsCalmPlan_on _ n0 _ k0 k1 wsx0 (rowNums x0) _ (by exact hx0.grid) HEx0.out HLx0.out (by omega)).mono ?_
  rintro e v6 ⟨rfl, hb⟩
  have hz6 : v5.heap.size ≤ v6.heap.size := by have := hb.size; simpa using this
  replace ht := below_then ht hb ht.size
  replace hb0 := hb0.below hb
  replace hx0 := hx0.below hb
  clear hb
  clear hb0_0 hb0_1 hb0_l
  obtain ⟨hb0_0, hb0_1⟩ := hb0.cells2
  have hb0_l := hb0.lt
  -- region 10
  go_wp2_with fail
  refine (toIntSS_any A0 n0 c0 x0 _ (by exact h0.below ht) HX0.out (by omega)).mono ?_
  rintro e v7 ⟨gy0, wsy0, rfl, hgy0, hwy0, hey0, hly0, hb⟩
  have hz7 : v6.heap.size ≤ v7.heap.size := by have := hb.size; simpa using this
  replace ht := below_then ht hb ht.size
  replace hb0 := hb0.below hb
  replace hx0 := hx0.below hb
  have HEy0 := Lib.hid hey0
  have HLy0 := Lib.hid hly0
  clear hey0 hly0
  have hy0 := hwy0.free.more (lo' := v6.heap.size) (hi' := v7.heap.size) (by simpa using hgy0) (Nat.le_refl _)
  have hcapy0 : n0 ≤ 1048576 := by have := total_len x0; have := HX0.out; omega
  clear hgy0 hwy0
  clear hb
  clear hb0_0 hb0_1 hb0_l
  obtain ⟨hb0_0, hb0_1⟩ := hb0.cells2
  have hb0_l := hb0.lt
  go_wp2_with fail
  refine (eqIntSS_yes _ _ n0 n0 _ _ wsx0 wsy0 _ (by exact hx0.grid) (by exact hy0.grid) (by rw [HEx0.out, HEy0.out]) HLx0.out HLy0.out (by omega)).mono ?_
  rintro e v8 ⟨rfl, hb⟩
  have hz8 : v7.heap.size ≤ v8.heap.size := by have := hb.size; simpa using this
  replace ht := below_then ht hb ht.size
  replace hb0 := hb0.below hb
  replace hx0 := hx0.below hb
  replace hy0 := hy0.below hb
  clear hb
  clear hy0
  clear hb0_0 hb0_1 hb0_l
  obtain ⟨hb0_0, hb0_1⟩ := hb0.cells2
  have hb0_l := hb0.lt
  go_wp2
  go_ret
  exact ⟨rfl, ht⟩

theorem lawIsCalmPlan_all (k0 : Int) (k1 : Int) (A0 : Option Addr) (n0 c0 : Nat) (x0 : List RowV) (w : World) (h0 : Grid w A0 x0) (hx0 : x0.length = n0) (hn0 : n0 ≤ 9223372036854775807) :
    Calls Try.prog 5 #[.agg #[.int .i64 k0, .int .i64 k1], .slice A0 n0 c0] w fun e w' => e = .returned (.bool true) ∧ Below w.heap.size w w' := by
  rcases (inferInstance : Decidable (0 ≤ 1048576 - (total x0 : Int))) with g0 | g0
  · exact lawIsCalmPlan_big0 k0 k1 A0 n0 c0 x0 w h0 hx0 hn0  (by omega)
  exact lawIsCalmPlan_small k0 k1 A0 n0 c0 x0 w h0 hx0 hn0 g0
end Go.Proofs.Ytjadoehdhbilcaa
