/-
  What is proved: contracts of the program's test of a place of a keep (leaves, slices.ContainsFunc with it, isSafePlace). Conditions: the dangers are read as they lie, and are dangers.
-/
import Derived.Test.YtkdjdnknhbmliaaKStart
import Derived.BigQuiet
namespace Go.Proofs.Ytkdjdnknhbmliaa
open Go.RowKit

/-- Dangers of at most eight things. -/
def DgAll (ds : List (List Int)) : Prop := ∀ d ∈ ds, IsDg 8 d
theorem keep_all {k s : Int} {ds : List (List Int)} (h : keepOk k s ds = true) : DgAll ds := by
  intro d hd
  obtain ⟨j, hj, rfl⟩ := List.getElem_of_mem hd
  have h1 := dg_at h hj
  have h2 := (keepOk_iff.1 h).1
  exact ⟨h1.1, h1.2.1, h1.2.2.1, by have := h1.2.2.2; omega⟩

set_option maxHeartbeats 3200000 in
theorem leaves_any (A : Option Addr) (c : Nat) (d : List Int) (bs : List Bool) (t : Bool) (w : World) (hA : Holds w A (nums d)) (hd : IsDg 8 d) :
    Calls Try.prog 91 #[.agg (placeCells bs t), .slice A 2 c] w fun e w' => e = .returned (.bool (leftBy bs t d)) ∧ Below w.heap.size w w' := by
  obtain ⟨b, o, rfl, hb, a0, a1⟩ := two_at hA hd.1
  obtain ⟨-, h0, h1, h2⟩ := hd
  have HL : Hid (leftBy bs t d = ((bs.getD (d.getD 0 0).toNat false != t) && (bs.getD (d.getD 1 0).toNat false != t))) := rfl
  rw [HL.out]
  clear HL hA
  generalize d.getD 0 0 = x0 at *
  generalize d.getD 1 0 = x1 at *
  obtain ⟨i, rfl⟩ : ∃ i : Nat, x0 = i := ⟨x0.toNat, by omega⟩
  obtain ⟨j, rfl⟩ : ∃ j : Nat, x1 = j := ⟨x1.toNat, by omega⟩
  have hi8 : i < 8 := by omega
  have hj8 : j < 8 := by omega
  rw [Int.toNat_natCast, Int.toNat_natCast]
  have hp := Whole.fresh w 90 (placeCells bs t)
  have HB := Lib.hid (below1 w (.cells (placeCells bs t) 90))
  have ci := (hp.cell i).trans (show (placeCells bs t)[i]? = some (.bool (bs.getD i false)) by
    have : i = 0 ∨ i = 1 ∨ i = 2 ∨ i = 3 ∨ i = 4 ∨ i = 5 ∨ i = 6 ∨ i = 7 := by omega
    rcases this with rfl | rfl | rfl | rfl | rfl | rfl | rfl | rfl <;> rfl)
  have cj := (hp.cell j).trans (show (placeCells bs t)[j]? = some (.bool (bs.getD j false)) by
    have : j = 0 ∨ j = 1 ∨ j = 2 ∨ j = 3 ∨ j = 4 ∨ j = 5 ∨ j = 6 ∨ j = 7 := by omega
    rcases this with rfl | rfl | rfl | rfl | rfl | rfl | rfl | rfl <;> rfl)
  have c8 := (hp.cell 8).trans (show (placeCells bs t)[8]? = some (.bool t) from rfl)
  have ca := (World.cell?_alloc_lt w (.cells (placeCells bs t) 90) (⟨b, o, none⟩ : Addr) hb).trans a0
  have cb := (World.cell?_alloc_lt w (.cells (placeCells bs t) 90) (⟨b, o + 1, none⟩ : Addr) hb).trans a1
  have hii : (i : Int) < 8 := by omega
  have hjj : (j : Int) < 8 := by omega
  generalize bs.getD i false = u at *
  generalize bs.getD j false = v at *
  clear h0 h1 h2 hp a0 a1
  generalize placeCells bs t = cs at *
  cases u <;> cases v <;> cases t
  all_goals
    go_enter Try.func91, Try.ntmps91
    go_wp2
    go_quiet (fail)
    go_wp2
    go_ret
    exact ⟨rfl, below_draws HB.out _⟩

/-- What slices.IndexFunc hands back. -/
def FuncPost (p : List Int → Bool) (ls : List (List Int)) (w : World) (e : Ending) (w' : World) : Prop := ∃ r : Int, e = .returned (.int .i64 r) ∧ decide (0 ≤ r) = ls.any p ∧ Below w.heap.size w w'
def leavesV (bs : List Bool) (t : Bool) : Value := .func (.func 91) #[.agg (placeCells bs t)] #[]

set_option maxHeartbeats 3200000 in
theorem indexFn_any (A : Option Addr) (n c : Nat) (rs : List RowV) (bs : List Bool) (t : Bool) (w : World) (hA : Grid w A rs) (hx : rs.length = n) (hn : n ≤ 1048576) (hd : DgAll (rowNums rs)) :
    Calls Try.prog 139 #[.slice A n c, leavesV bs t] w (FuncPost (leftBy bs t) (rowNums rs) w) := by
  subst hx
  have HG := Lib.hid hA
  have HD := Lib.hid hd
  unfold leavesV
  clear hA hd
  go_enter Try.func139, Try.ntmps139
  go_wp2
  go_loopw [8] (fun i wr => ∃ j : Nat, j ≤ rs.length ∧ i = .int .i64 j ∧ (∀ x, x < j → leftBy bs t ((rowNums rs).getD x []) = false) ∧ Below w.heap.size w wr) (fun i _ => rs.length - (intOf i).toNat)
  case atStart => exact ⟨0, Nat.zero_le _, rfl, fun x h => by omega, Below.refl _ _⟩
  case round =>
    obtain ⟨j, hj, rfl, hs, hb⟩ := hrel
    have HS := Lib.hid hs
    have HB := Lib.hid hb
    by_cases hlt : j < rs.length
    · obtain ⟨b, o, rfl, hbl, hcell, hrow, hrl, hrn⟩ := grid_row HG.out hlt
      replace hcell := (hb.cell (p := ⟨b, o + j, none⟩) hbl).trans hcell
      have HAT := Lib.hid (rows_at rs hlt)
      have HDG : Hid (IsDg 8 rs[j].xs) := HD.out _ (by rw [← HAT.out, List.getD_eq_getElem?_getD, List.getElem?_eq_getElem (by rw [rowNums_len]; exact hlt)]; exact List.getElem_mem _)
      obtain ⟨R, hR⟩ : ∃ R, R = rs[j] := ⟨_, rfl⟩
      rw [← hR] at hcell hrow hrl hrn HAT HDG
      obtain ⟨rA, rn, rc, rxs⟩ := R
      replace hcell : World.cell? wr ⟨b, o + j, none⟩ = some (.slice rA rn rc) := hcell
      obtain rfl : rn = 2 := by have h1 : rxs.length = rn := hrl; have h2 : rxs.length = 2 := HDG.out.1; omega
      have HRW : Hid (Holds wr rA (nums rxs)) := Holds.below (w := w) hrow hb
      have HAT2 : Hid ((rowNums rs).getD j [] = rxs) := HAT.out
      have HDG2 : Hid (IsDg 8 rxs) := HDG.out
      clear hs hb hrow hrl hrn hR HAT HDG
      cases hl : leftBy bs t rxs
      · have HL := Lib.hid hl
        clear hl
        go_wp2_with fail
        refine (leaves_any rA rc rxs bs t _ HRW.out HDG2.out).mono ?_
        rintro e w1 ⟨rfl, hb1⟩
        rw [HL.out]
        have HB1 := Lib.hid (below_then HB.out hb1 HB.out.size)
        clear hb1
        go_wp2
        go_roundw
        case rel => exact ⟨j + 1, by omega, by go_num, fun x hx => by
          rcases Nat.lt_succ_iff_lt_or_eq.1 hx with h | rfl
          · exact HS.out x h
          · rw [HAT2.out]; exact HL.out, HB1.out⟩
        case measure => simp [intOf]; omega
      · have HL := Lib.hid hl
        have HAN : Hid ((rowNums rs).any (leftBy bs t) = true) := by
          show _ = _
          rw [List.any_eq_true]
          refine ⟨rxs, ?_, HL.out⟩
          rw [← HAT2.out, List.getD_eq_getElem?_getD, List.getElem?_eq_getElem (by rw [rowNums_len]; exact hlt)]
          exact List.getElem_mem _
        clear hl
        go_wp2_with fail
        refine (leaves_any rA rc rxs bs t _ HRW.out HDG2.out).mono ?_
        rintro e w1 ⟨rfl, hb1⟩
        rw [HL.out]
        have HB1 := Lib.hid (below_then HB.out hb1 HB.out.size)
        clear hb1
        go_wp2
        go_ret
        exact ⟨(j : Int), rfl, by rw [HAN.out]; simp, HB1.out⟩
    · have HAN : Hid ((rowNums rs).any (leftBy bs t) = false) := by
        show _ = _
        rw [List.any_eq_false]
        intro x hx
        obtain ⟨i, hi, rfl⟩ := List.getElem_of_mem hx
        have h := HS.out i (by rw [rowNums_len] at hi; omega)
        rw [List.getD_eq_getElem?_getD, List.getElem?_eq_getElem hi] at h
        simpa using h
      clear hs hb
      go_wp2
      go_ret
      exact ⟨-1, rfl, by rw [HAN.out]; rfl, HB.out⟩

set_option maxHeartbeats 800000 in
theorem containsFn_any (A : Option Addr) (n c : Nat) (rs : List RowV) (bs : List Bool) (t : Bool) (w : World) (hA : Grid w A rs) (hx : rs.length = n) (hn : n ≤ 1048576) (hd : DgAll (rowNums rs)) :
    Calls Try.prog 126 #[.slice A n c, leavesV bs t] w fun e w' => e = .returned (.bool ((rowNums rs).any (leftBy bs t))) ∧ Below w.heap.size w w' := by
  have HX := Lib.hid hx
  clear hx
  go_enter Try.func126, Try.ntmps126
  go_wp2_with fail
  refine (indexFn_any A n c rs bs t _ hA HX.out hn hd).mono ?_
  rintro e w1 ⟨r, rfl, hr, hb⟩
  have HR := Lib.hid hr
  clear hr
  go_wp2
  go_ret
  exact ⟨ret_of (by rw [← HR.out]; rfl), hb⟩

set_option maxHeartbeats 1600000 in
theorem isSafePlace_any (k s : Int) (A : Option Addr) (n c : Nat) (rs : List RowV) (bs : List Bool) (t : Bool) (w : World) (hA : Grid w A rs) (hx : rs.length = n) (hn : n ≤ 1048576) (hd : DgAll (rowNums rs)) :
    Calls Try.prog 90 #[.agg #[.int .i64 k, .slice A n c, .int .i64 s], .agg (placeCells bs t)] w fun e w' => e = .returned (.bool (!(rowNums rs).any (leftBy bs t))) ∧ Below w.heap.size w w' := by
  have HX := Lib.hid hx
  clear hx
  have h0 := (Whole.fresh w 54 #[.int .i64 k, .slice A n c, .int .i64 s]).alloc (.cells (placeCells bs t) 90)
  have h1 := Whole.fresh (w.alloc (.cells #[.int .i64 k, .slice A n c, .int .i64 s] 54)) 90 (placeCells bs t)
  rw [World.size_alloc] at h1
  have hA2 := (hA.below (below2 w (.cells #[.int .i64 k, .slice A n c, .int .i64 s] 54) (.cells (placeCells bs t) 90)))
  have HB := Lib.hid (below2 w (.cells #[.int .i64 k, .slice A n c, .int .i64 s] 54) (.cells (placeCells bs t) 90))
  obtain ⟨f0, f1, f2⟩ := h0.cells3
  go_enter Try.func90, Try.ntmps90
  go_wp2_with (first | (refine wpList_load_row rfl 90 (.tmp 3) rfl (w.heap.size + 1) rfl 90 (placeCells bs t) (0, 0) _ h1 Try.underlying90 rfl size_place ?_) | (go_at_call 126; refine (containsFn_any A n c rs bs t _ hA2 HX.out hn hd).mono ?_; rintro e w1 ⟨rfl, hb⟩))
  go_ret
  exact ⟨rfl, below_then HB.out hb (by simp; omega)⟩
end Go.Proofs.Ytkdjdnknhbmliaa
