/-
  What is proved: the contract of the program's fetchGain. Conditions: two people at least, times from 0 to 1000.
-/
import Derived.Test.YtpefgleipjjneaaRank
import Derived.RegionTactic
import Derived.Deep.CutBlock
import Derived.WalkMore
namespace Go.Proofs.Ytpefgleipjjneaa
open Go.RowKit

/-- Two boxes that the call has made, each with a person. -/
def TwoBoxes (lo : Nat) (a b : Wk) (w : World) (s5 s6 : Value) (wx : World) : Prop :=
  ∃ p q : Nat, s5 = .pointer (some ⟨p, 0, none⟩) ∧ s6 = .pointer (some ⟨q, 0, none⟩) ∧ lo ≤ p ∧ lo ≤ q ∧ p ≠ q ∧ Whole wx p 52 #[.int .i64 a.1, .int .i64 a.2] ∧ Whole wx q 52 #[.int .i64 b.1, .int .i64 b.2] ∧ Below lo w wx

theorem two_ab (a b : Wk) (w : World) : TwoBoxes w.heap.size a b w (.pointer (some ⟨w.heap.size, 0, none⟩)) (.pointer (some ⟨w.heap.size + 1, 0, none⟩)) ((w.alloc (.cells #[.int .i64 a.1, .int .i64 a.2] 52)).alloc (.cells #[.int .i64 b.1, .int .i64 b.2] 52)).drew := by
  refine ⟨w.heap.size, w.heap.size + 1, rfl, rfl, Nat.le_refl _, Nat.le_succ _, by omega, ((Whole.fresh w _ _).alloc _).drew, ?_, (below2 w _ _).drew⟩
  have h := (Whole.fresh (w.alloc (.cells #[.int .i64 a.1, .int .i64 a.2] 52)) 52 #[.int .i64 b.1, .int .i64 b.2]).drew
  rw [World.size_alloc] at h
  exact h
theorem two_ba (a b : Wk) (w : World) : TwoBoxes w.heap.size a b w (.pointer (some ⟨w.heap.size + 1, 0, none⟩)) (.pointer (some ⟨w.heap.size, 0, none⟩)) ((w.alloc (.cells #[.int .i64 b.1, .int .i64 b.2] 52)).alloc (.cells #[.int .i64 a.1, .int .i64 a.2] 52)).drew := by
  refine ⟨w.heap.size + 1, w.heap.size, rfl, rfl, Nat.le_succ _, Nat.le_refl _, by omega, ?_, ((Whole.fresh w _ _).alloc _).drew, (below2 w _ _).drew⟩
  have h := (Whole.fresh (w.alloc (.cells #[.int .i64 b.1, .int .i64 b.2] 52)) 52 #[.int .i64 a.1, .int .i64 a.2]).drew
  rw [World.size_alloc] at h
  exact h

set_option maxHeartbeats 6400000 in
set_option maxRecDepth 100000 in
theorem fetchGain_any (W : List Wk) (y : Wk) (w : World) (ha0 : 0 ≤ (wk W 0).2) (ha1 : (wk W 0).2 ≤ 1000) (hb0 : 0 ≤ (wk W 1).2) (hb1 : (wk W 1).2 ≤ 1000) (hy0 : 0 ≤ y.2) (hy1 : y.2 ≤ 1000) :
    Calls Try.prog 36 #[.agg (squadCells W W.length), .agg #[.int .i64 y.1, .int .i64 y.2]] w fun e w' => e = .returned (.int .i64 ((wk W 0).2 + y.2 - 2 * (wk W 1).2)) ∧ Below w.heap.size w w' := by
  have h0 := (Whole.fresh w 55 (squadCells W W.length)).alloc (.cells #[.int .i64 y.1, .int .i64 y.2] 52)
  have hy := Whole.fresh (w.alloc (.cells (squadCells W W.length) 55)) 52 #[.int .i64 y.1, .int .i64 y.2]
  rw [World.size_alloc] at hy
  have hbw := below2 w (.cells (squadCells W W.length) 55) (.cells #[.int .i64 y.1, .int .i64 y.2] 52)
  have a0 := (h0.cell 0).trans (squad_who W W.length (k := 0) (by omega))
  have a1 := (h0.cell 1).trans (squad_time W W.length (k := 0) (by omega))
  have b0 := (h0.cell 2).trans (squad_who W W.length (k := 1) (by omega))
  have b1 := (h0.cell 3).trans (squad_time W W.length (k := 1) (by omega))
  obtain ⟨W0, hW0⟩ : ∃ W0, W0 = (w.alloc (.cells (squadCells W W.length) 55)).alloc (.cells #[.int .i64 y.1, .int .i64 y.2] 52) := ⟨_, rfl⟩
  rw [← hW0] at h0 hy hbw a0 a1 b0 b1
  have hl0 := hy.lt
  have HW0 := Lib.hid hW0
  have HY := Lib.hid hy
  have HBW := Lib.hid hbw
  generalize wk W 0 = a at *
  generalize wk W 1 = b at *
  clear h0 hy hbw hW0
  go_enter Try.func36, Try.ntmps36
  go_wp2_with fail
  go_cut [5, 6] from 7 to 12 (fun s5 s6 wx => TwoBoxes W0.heap.size a b W0 s5 s6 wx)
  case first =>
    rw [← HW0.out]
    have hn1 : ¬ W0.heap.size = w.heap.size := by omega
    have hn2 : ¬ W0.heap.size + 1 = w.heap.size := by omega
    have hn3 : ¬ w.heap.size = W0.heap.size := by omega
    have hn4 : ¬ w.heap.size = W0.heap.size + 1 := by omega
    go_region_held3 (fun w' => (w'.cell? ⟨w.heap.size, 0, none⟩ = some (.int .i64 a.1) ∧ w'.cell? ⟨w.heap.size, 1, none⟩ = some (.int .i64 a.2)) ∧ (w'.cell? ⟨w.heap.size, 2, none⟩ = some (.int .i64 b.1) ∧ w'.cell? ⟨w.heap.size, 3, none⟩ = some (.int .i64 b.2))) (go_keep) (fail)
    all_goals (go_wp2_with fail; go_meet)
    all_goals first | exact two_ab a b W0 | exact two_ba a b W0
  obtain ⟨p, q, rfl, rfl, hp, hq, hpq, hwp, hwq, hb⟩ := hcut
  obtain ⟨k0, k1, -, -⟩ := (HY.out.below hb).two
  obtain ⟨p0, p1, -, -⟩ := hwp.two
  obtain ⟨q0, q1, -, -⟩ := hwq.two
  have HB := Lib.hid (below_then HBW.out hb HBW.out.size)
  clear hwp hwq hb a0 a1 b0 b1
  go_wp2
  go_ret
  exact ⟨rfl, HB.out⟩
end Go.Proofs.Ytpefgleipjjneaa
