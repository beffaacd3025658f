/-
  What is proved: the contract of slices.Repeat at the list that holds 1 alone. Conditions: one to four times.
  What is proved: contracts of slices.Backward at lists of numbers. Conditions: the list is read as its numbers lie in it, in blocks that were there.
  What is proved: the contract of the step to the next list. Conditions: a list of the call's own, of small numbers.
  What is proved: pure: that the lists that do not fall, listed by going on from each beginning, are those that the step to the next list runs through, in order. Conditions: at most four people, times of at most 12.
  What is proved: pure: the lists that do not fall are those that the step to the next list runs through, in order; the hidden times among them. Conditions: at most four people, times of at most 12.
  What is proved: the contract of all lists of so many times up to a most one that do not fall. Conditions: one to four people, times of 1 to 12.
  What is proved: contracts of Solutions, of the model and of the program. Conditions: the clues are read as they lie.
  What is proved: contracts of CountSolutions, CountHidden, IsSolved and FirstSolution, of the model and of the program. Conditions: the clues are read as they lie.
  What is proved: contracts of BestClue, of the model and of the program. Conditions: the clues are read as they lie.
  What is proved: contracts of the laws' own helpers for clues and puzzles: their size, their copy, their comparison. Conditions: the given clues are read as they lie; a copy is of at most 1,048,576 clues.
  What is proved: contracts of a puzzle's clues without one, of the model. Conditions: the clues are read as they lie.
  What is proved: contracts of slices.Grow at the nil list and of slices.Concat at lists of clues. Conditions: at most 1,048,576 clues; the lists are read as they lie.
  What is proved: the contract of the program's DropClue. Conditions: the clues are read as they lie.
  What is proved: the contract of the model's DropClue; bounds of what it hands back. Conditions: the clues are read as they lie.
  What is proved: contracts of LeftByClues, of the model and of the program, and of a part of a puzzle. Conditions: the clues are read as they lie.
  What is proved: the contract of the program's AddClue. Conditions: the clues are read as they lie.
-/
import Derived.Laws.CopyOwn
import Derived.Laws.Bits64b
import Derived.RangeFuncNested
import Derived.RangeFuncBox
import Derived.RangeFuncBound
import Derived.RangeFuncCalls
import Derived.RangeFuncLeaves
import Derived.Shelf.Abstract
import Derived.Shelf.RegionOpen
import Derived.WalkKit
import Derived.OwnWalkIn
import Derived.TacticsInMore
import Derived.LoopNIn
import Derived.LoopIn
import Derived.Deep.RegionHeld3
import Derived.Deep.RegionLawGrows
import Derived.Lib.AppendZeros
import Derived.ArgAppend
import Derived.Test.YtkocompjjogciaaJ4HarderPuzzle
set_option linter.unusedSimpArgs false
set_option linter.unusedVariables false
namespace Go.Proofs.Ytkocompjjogciaa
open Go.RowKit

set_option maxHeartbeats 1600000 in
theorem mul_one (p : Int) (h1 : 1 ≤ p) (h4 : p ≤ 4) (w : World) : Calls Try.prog 211 #[.int .u64 1, .int .u64 p] w fun e w' => e = .returned (.tuple #[.int .u64 0, .int .u64 p]) ∧ w = w' := by
  rcases (show p = 1 ∨ p = 2 ∨ p = 3 ∨ p = 4 by omega) with rfl | rfl | rfl | rfl
  all_goals
    go_enter Try.func211, Try.ntmps211
    go_wp2
    go_ret2
    exact ⟨by rfl, rfl⟩
theorem size_int : (Try.prog.info? 3).map (·.size) = some 1 := by kernel_rfl

theorem alloc_setRow (w : World) (cs ds : Array Value) (ty : TypeId) : (w.alloc (.cells cs ty)).setRow w.heap.size ds = w.alloc (.cells ds ty) := by
  have h : ((w.alloc (.cells cs ty)).setRow w.heap.size ds).heap = (w.alloc (.cells ds ty)).heap := by
    apply Array.ext_getElem?
    intro j
    by_cases hj : j = w.heap.size
    · subst hj
      exact (setRow_heap (w.alloc (.cells cs ty)) w.heap.size cs ds ty _ (Whole.fresh w ty cs)).trans (Whole.fresh w ty ds).symm
    · rw [setRow_other _ _ _ _ hj]
      by_cases hlt : j < w.heap.size
      · rw [Below.heap_alloc w _ j hlt, Below.heap_alloc w _ j hlt]
      · rw [Array.getElem?_eq_none (by simp; omega), Array.getElem?_eq_none (by simp; omega)]
  rw [show (w.alloc (.cells cs ty)).setRow w.heap.size ds = { (w.alloc (.cells cs ty)) with heap := ((w.alloc (.cells cs ty)).setRow w.heap.size ds).heap } from rfl, h]
  rfl

set_option maxHeartbeats 3200000 in
set_option maxRecDepth 100000 in
theorem repeat_1 (B : Nat) (w : World) (hB : Whole w B 3 #[.int .i64 1]) :
    Calls Try.prog 203 #[.slice (some ⟨B, 0, none⟩) 1 1, .int .i64 1] w fun e w' => e = .returned (.slice (some ⟨w.heap.size, 0, none⟩) 1 1) ∧ Whole w' w.heap.size 3 (nums (List.replicate 1 1)).toArray ∧ Below w.heap.size w w' := by
  obtain ⟨i0, hi, hz0, hz1, hz2⟩ := info_parts info_int
  have hmk : ∀ W : World, (Instr.makeSlice 22 (.int .i64 ((1 : Nat) : Int)) (.int .i64 ((1 : Nat) : Int))).run Try.prog W = .ok (.slice (some ⟨W.heap.size, 0, none⟩) 1 1) (W.alloc (.cells (nums (List.replicate 1 0)).toArray 3)) := by
    intro W
    have h := run_make (P := Try.prog) W 22 3 i0 _ Try.underlying22 hi hz0 .i64 .i64 (1 : Nat) (1 : Nat) (by omega) (by omega) (by rw [hz2]; omega) (by omega)
    simp only [Int.toNat_natCast, hz1, made_zeros] at h
    rw [h]
  have hmk1 : ∀ W : World, (Instr.makeSlice 22 (.int .i64 1) (.int .i64 1)).run Try.prog W = .ok (.slice (some ⟨W.heap.size, 0, none⟩) 1 1) (W.alloc (.cells (nums [0]).toArray 3)) := hmk
  clear hmk hi hz0 hz1 hz2
  have hBlt := hB.lt
  have hcp0 : (Builtin.copy_ #[22, 22] 3 #[.slice (some ⟨w.heap.size, 0, none⟩) 1 1, .slice (some ⟨B, 0, none⟩) 1 1]).run Try.prog (w.alloc (.cells (nums [0]).toArray 3)) = .ok (goInt 1) (w.alloc (.cells (nums [1]).toArray 3)) := by
    have h := run_copy_row (P := Try.prog) (w.alloc (.cells (nums [0]).toArray 3)) 22 22 3 3 w.heap.size 0 1 1 ⟨B, 0, none⟩ 1 1 (nums [0]).toArray 3 [.int .i64 1] Try.underlying22 size_int (Whole.fresh w 3 (nums [0]).toArray) (by rfl) (fun j v hv => (by
      have hj : j = 0 := by have := (List.getElem?_eq_some_iff.1 hv).1; simp at this; exact this
      subst hj
      simp only [List.getElem?_cons_zero, Option.some.injEq] at hv
      subst hv
      exact ((hB.alloc _).cell 0))) (by simp [nums]) (by simp [Value.oneCell'])
    rw [alloc_setRow] at h
    simpa [nums] using h
  go_enter Try.func203, Try.ntmps203
  go_wp2_with (go_at_call 211; refine (mul_one _ (by omega) (by omega) _).mono ?_; rintro e w' ⟨rfl, rfl⟩)
  refine wp_loop_rounds 1 ?_
  rw [rounds_succ]
  go_wp2
  go_ret
  exact ⟨rfl, Whole.fresh w 3 (nums [1]).toArray, (below1 w _)⟩

set_option maxHeartbeats 3200000 in
set_option maxRecDepth 100000 in
theorem repeat_2 (B : Nat) (w : World) (hB : Whole w B 3 #[.int .i64 1]) :
    Calls Try.prog 203 #[.slice (some ⟨B, 0, none⟩) 1 1, .int .i64 2] w fun e w' => e = .returned (.slice (some ⟨w.heap.size, 0, none⟩) 2 2) ∧ Whole w' w.heap.size 3 (nums (List.replicate 2 1)).toArray ∧ Below w.heap.size w w' := by
  obtain ⟨i0, hi, hz0, hz1, hz2⟩ := info_parts info_int
  have hmk : ∀ W : World, (Instr.makeSlice 22 (.int .i64 ((2 : Nat) : Int)) (.int .i64 ((2 : Nat) : Int))).run Try.prog W = .ok (.slice (some ⟨W.heap.size, 0, none⟩) 2 2) (W.alloc (.cells (nums (List.replicate 2 0)).toArray 3)) := by
    intro W
    have h := run_make (P := Try.prog) W 22 3 i0 _ Try.underlying22 hi hz0 .i64 .i64 (2 : Nat) (2 : Nat) (by omega) (by omega) (by rw [hz2]; omega) (by omega)
    simp only [Int.toNat_natCast, hz1, made_zeros] at h
    rw [h]
  have hmk1 : ∀ W : World, (Instr.makeSlice 22 (.int .i64 2) (.int .i64 2)).run Try.prog W = .ok (.slice (some ⟨W.heap.size, 0, none⟩) 2 2) (W.alloc (.cells (nums [0, 0]).toArray 3)) := hmk
  clear hmk hi hz0 hz1 hz2
  have hBlt := hB.lt
  have hcp0 : (Builtin.copy_ #[22, 22] 3 #[.slice (some ⟨w.heap.size, 0, none⟩) 2 2, .slice (some ⟨B, 0, none⟩) 1 1]).run Try.prog (w.alloc (.cells (nums [0, 0]).toArray 3)) = .ok (goInt 1) (w.alloc (.cells (nums [1, 0]).toArray 3)) := by
    have h := run_copy_row (P := Try.prog) (w.alloc (.cells (nums [0, 0]).toArray 3)) 22 22 3 3 w.heap.size 0 2 2 ⟨B, 0, none⟩ 1 1 (nums [0, 0]).toArray 3 [.int .i64 1] Try.underlying22 size_int (Whole.fresh w 3 (nums [0, 0]).toArray) (by rfl) (fun j v hv => (by
      have hj : j = 0 := by have := (List.getElem?_eq_some_iff.1 hv).1; simp at this; exact this
      subst hj
      simp only [List.getElem?_cons_zero, Option.some.injEq] at hv
      subst hv
      exact ((hB.alloc _).cell 0))) (by simp [nums]) (by simp [Value.oneCell'])
    rw [alloc_setRow] at h
    simpa [nums] using h
  have hcp1 : (Builtin.copy_ #[22, 22] 3 #[.slice (some ⟨w.heap.size, 1, none⟩) 1 1, .slice (some ⟨w.heap.size, 0, none⟩) 1 2]).run Try.prog (w.alloc (.cells (nums [1, 0]).toArray 3)).drew = .ok (goInt 1) (w.alloc (.cells (nums [1, 1]).toArray 3)).drew := by
    have h := run_copy_row (P := Try.prog) (w.alloc (.cells (nums [1, 0]).toArray 3)).drew 22 22 3 3 w.heap.size 1 1 1 ⟨w.heap.size, 0, none⟩ 1 2 (nums [1, 0]).toArray 3 [.int .i64 1] Try.underlying22 size_int (Whole.fresh w 3 (nums [1, 0]).toArray) (by rfl) (fun j v hv => (by
      have hw := (Whole.fresh w 3 (nums [1, 0]).toArray).cell j
      have hj : j < 1 := by have := (List.getElem?_eq_some_iff.1 hv).1; simpa using this
      rw [show (⟨w.heap.size, 0, none⟩ : Addr).add j = ⟨w.heap.size, j, none⟩ from by unfold Addr.add; split <;> simp_all]
      refine hw.trans ?_
      rcases (show j = 0 ∨ j = 1 by omega) with rfl | rfl <;> (simp [nums] at hv ⊢; try exact hv))) (by simp [nums]) (by simp [Value.oneCell'])
    have hs : ∀ ds, ((w.alloc (.cells (nums [1, 0]).toArray 3)).drew).setRow w.heap.size ds = (w.alloc (.cells ds 3)).drew := fun ds => by rw [← alloc_setRow w (nums [1, 0]).toArray ds 3]; rfl
    rw [hs] at h
    simpa [nums] using h
  go_enter Try.func203, Try.ntmps203
  go_wp2_with (go_at_call 211; refine (mul_one _ (by omega) (by omega) _).mono ?_; rintro e w' ⟨rfl, rfl⟩)
  refine wp_loop_rounds 2 ?_
  rw [rounds_succ]
  go_wp2
  go_region
  go_wp2
  rw [rounds_succ]
  go_wp2
  go_ret
  exact ⟨rfl, Whole.fresh w 3 (nums [1, 1]).toArray, (below1 w _).drew⟩

set_option maxHeartbeats 3200000 in
set_option maxRecDepth 100000 in
theorem repeat_3 (B : Nat) (w : World) (hB : Whole w B 3 #[.int .i64 1]) :
    Calls Try.prog 203 #[.slice (some ⟨B, 0, none⟩) 1 1, .int .i64 3] w fun e w' => e = .returned (.slice (some ⟨w.heap.size, 0, none⟩) 3 3) ∧ Whole w' w.heap.size 3 (nums (List.replicate 3 1)).toArray ∧ Below w.heap.size w w' := by
  obtain ⟨i0, hi, hz0, hz1, hz2⟩ := info_parts info_int
  have hmk : ∀ W : World, (Instr.makeSlice 22 (.int .i64 ((3 : Nat) : Int)) (.int .i64 ((3 : Nat) : Int))).run Try.prog W = .ok (.slice (some ⟨W.heap.size, 0, none⟩) 3 3) (W.alloc (.cells (nums (List.replicate 3 0)).toArray 3)) := by
    intro W
    have h := run_make (P := Try.prog) W 22 3 i0 _ Try.underlying22 hi hz0 .i64 .i64 (3 : Nat) (3 : Nat) (by omega) (by omega) (by rw [hz2]; omega) (by omega)
    simp only [Int.toNat_natCast, hz1, made_zeros] at h
    rw [h]
  have hmk1 : ∀ W : World, (Instr.makeSlice 22 (.int .i64 3) (.int .i64 3)).run Try.prog W = .ok (.slice (some ⟨W.heap.size, 0, none⟩) 3 3) (W.alloc (.cells (nums [0, 0, 0]).toArray 3)) := hmk
  clear hmk hi hz0 hz1 hz2
  have hBlt := hB.lt
  have hcp0 : (Builtin.copy_ #[22, 22] 3 #[.slice (some ⟨w.heap.size, 0, none⟩) 3 3, .slice (some ⟨B, 0, none⟩) 1 1]).run Try.prog (w.alloc (.cells (nums [0, 0, 0]).toArray 3)) = .ok (goInt 1) (w.alloc (.cells (nums [1, 0, 0]).toArray 3)) := by
    have h := run_copy_row (P := Try.prog) (w.alloc (.cells (nums [0, 0, 0]).toArray 3)) 22 22 3 3 w.heap.size 0 3 3 ⟨B, 0, none⟩ 1 1 (nums [0, 0, 0]).toArray 3 [.int .i64 1] Try.underlying22 size_int (Whole.fresh w 3 (nums [0, 0, 0]).toArray) (by rfl) (fun j v hv => (by
      have hj : j = 0 := by have := (List.getElem?_eq_some_iff.1 hv).1; simp at this; exact this
      subst hj
      simp only [List.getElem?_cons_zero, Option.some.injEq] at hv
      subst hv
      exact ((hB.alloc _).cell 0))) (by simp [nums]) (by simp [Value.oneCell'])
    rw [alloc_setRow] at h
    simpa [nums] using h
  have hcp1 : (Builtin.copy_ #[22, 22] 3 #[.slice (some ⟨w.heap.size, 1, none⟩) 2 2, .slice (some ⟨w.heap.size, 0, none⟩) 1 3]).run Try.prog (w.alloc (.cells (nums [1, 0, 0]).toArray 3)).drew = .ok (goInt 1) (w.alloc (.cells (nums [1, 1, 0]).toArray 3)).drew := by
    have h := run_copy_row (P := Try.prog) (w.alloc (.cells (nums [1, 0, 0]).toArray 3)).drew 22 22 3 3 w.heap.size 1 2 2 ⟨w.heap.size, 0, none⟩ 1 3 (nums [1, 0, 0]).toArray 3 [.int .i64 1] Try.underlying22 size_int (Whole.fresh w 3 (nums [1, 0, 0]).toArray) (by rfl) (fun j v hv => (by
      have hw := (Whole.fresh w 3 (nums [1, 0, 0]).toArray).cell j
      have hj : j < 1 := by have := (List.getElem?_eq_some_iff.1 hv).1; simpa using this
      rw [show (⟨w.heap.size, 0, none⟩ : Addr).add j = ⟨w.heap.size, j, none⟩ from by unfold Addr.add; split <;> simp_all]
      refine hw.trans ?_
      rcases (show j = 0 ∨ j = 1 by omega) with rfl | rfl <;> (simp [nums] at hv ⊢; try exact hv))) (by simp [nums]) (by simp [Value.oneCell'])
    have hs : ∀ ds, ((w.alloc (.cells (nums [1, 0, 0]).toArray 3)).drew).setRow w.heap.size ds = (w.alloc (.cells ds 3)).drew := fun ds => by rw [← alloc_setRow w (nums [1, 0, 0]).toArray ds 3]; rfl
    rw [hs] at h
    simpa [nums] using h
  have hcp2 : (Builtin.copy_ #[22, 22] 3 #[.slice (some ⟨w.heap.size, 2, none⟩) 1 1, .slice (some ⟨w.heap.size, 0, none⟩) 2 3]).run Try.prog (w.alloc (.cells (nums [1, 1, 0]).toArray 3)).drew.drew = .ok (goInt 1) (w.alloc (.cells (nums [1, 1, 1]).toArray 3)).drew.drew := by
    have h := run_copy_row (P := Try.prog) (w.alloc (.cells (nums [1, 1, 0]).toArray 3)).drew.drew 22 22 3 3 w.heap.size 2 1 1 ⟨w.heap.size, 0, none⟩ 2 3 (nums [1, 1, 0]).toArray 3 [.int .i64 1] Try.underlying22 size_int (Whole.fresh w 3 (nums [1, 1, 0]).toArray) (by rfl) (fun j v hv => (by
      have hw := (Whole.fresh w 3 (nums [1, 1, 0]).toArray).cell j
      have hj : j < 1 := by have := (List.getElem?_eq_some_iff.1 hv).1; simpa using this
      rw [show (⟨w.heap.size, 0, none⟩ : Addr).add j = ⟨w.heap.size, j, none⟩ from by unfold Addr.add; split <;> simp_all]
      refine hw.trans ?_
      rcases (show j = 0 ∨ j = 1 by omega) with rfl | rfl <;> (simp [nums] at hv ⊢; try exact hv))) (by simp [nums]) (by simp [Value.oneCell'])
    have hs : ∀ ds, ((w.alloc (.cells (nums [1, 1, 0]).toArray 3)).drew.drew).setRow w.heap.size ds = (w.alloc (.cells ds 3)).drew.drew := fun ds => by rw [← alloc_setRow w (nums [1, 1, 0]).toArray ds 3]; rfl
    rw [hs] at h
    simpa [nums] using h
  go_enter Try.func203, Try.ntmps203
  go_wp2_with (go_at_call 211; refine (mul_one _ (by omega) (by omega) _).mono ?_; rintro e w' ⟨rfl, rfl⟩)
  refine wp_loop_rounds 3 ?_
  rw [rounds_succ]
  go_wp2
  go_region
  go_wp2
  rw [rounds_succ]
  go_wp2
  go_region
  go_wp2
  rw [rounds_succ]
  go_wp2
  go_ret
  exact ⟨rfl, Whole.fresh w 3 (nums [1, 1, 1]).toArray, (below1 w _).drew.drew⟩

set_option maxHeartbeats 3200000 in
set_option maxRecDepth 100000 in
theorem repeat_4 (B : Nat) (w : World) (hB : Whole w B 3 #[.int .i64 1]) :
    Calls Try.prog 203 #[.slice (some ⟨B, 0, none⟩) 1 1, .int .i64 4] w fun e w' => e = .returned (.slice (some ⟨w.heap.size, 0, none⟩) 4 4) ∧ Whole w' w.heap.size 3 (nums (List.replicate 4 1)).toArray ∧ Below w.heap.size w w' := by
  obtain ⟨i0, hi, hz0, hz1, hz2⟩ := info_parts info_int
  have hmk : ∀ W : World, (Instr.makeSlice 22 (.int .i64 ((4 : Nat) : Int)) (.int .i64 ((4 : Nat) : Int))).run Try.prog W = .ok (.slice (some ⟨W.heap.size, 0, none⟩) 4 4) (W.alloc (.cells (nums (List.replicate 4 0)).toArray 3)) := by
    intro W
    have h := run_make (P := Try.prog) W 22 3 i0 _ Try.underlying22 hi hz0 .i64 .i64 (4 : Nat) (4 : Nat) (by omega) (by omega) (by rw [hz2]; omega) (by omega)
    simp only [Int.toNat_natCast, hz1, made_zeros] at h
    rw [h]
  have hmk1 : ∀ W : World, (Instr.makeSlice 22 (.int .i64 4) (.int .i64 4)).run Try.prog W = .ok (.slice (some ⟨W.heap.size, 0, none⟩) 4 4) (W.alloc (.cells (nums [0, 0, 0, 0]).toArray 3)) := hmk
  clear hmk hi hz0 hz1 hz2
  have hBlt := hB.lt
  have hcp0 : (Builtin.copy_ #[22, 22] 3 #[.slice (some ⟨w.heap.size, 0, none⟩) 4 4, .slice (some ⟨B, 0, none⟩) 1 1]).run Try.prog (w.alloc (.cells (nums [0, 0, 0, 0]).toArray 3)) = .ok (goInt 1) (w.alloc (.cells (nums [1, 0, 0, 0]).toArray 3)) := by
    have h := run_copy_row (P := Try.prog) (w.alloc (.cells (nums [0, 0, 0, 0]).toArray 3)) 22 22 3 3 w.heap.size 0 4 4 ⟨B, 0, none⟩ 1 1 (nums [0, 0, 0, 0]).toArray 3 [.int .i64 1] Try.underlying22 size_int (Whole.fresh w 3 (nums [0, 0, 0, 0]).toArray) (by rfl) (fun j v hv => (by
      have hj : j = 0 := by have := (List.getElem?_eq_some_iff.1 hv).1; simp at this; exact this
      subst hj
      simp only [List.getElem?_cons_zero, Option.some.injEq] at hv
      subst hv
      exact ((hB.alloc _).cell 0))) (by simp [nums]) (by simp [Value.oneCell'])
    rw [alloc_setRow] at h
    simpa [nums] using h
  have hcp1 : (Builtin.copy_ #[22, 22] 3 #[.slice (some ⟨w.heap.size, 1, none⟩) 3 3, .slice (some ⟨w.heap.size, 0, none⟩) 1 4]).run Try.prog (w.alloc (.cells (nums [1, 0, 0, 0]).toArray 3)).drew = .ok (goInt 1) (w.alloc (.cells (nums [1, 1, 0, 0]).toArray 3)).drew := by
    have h := run_copy_row (P := Try.prog) (w.alloc (.cells (nums [1, 0, 0, 0]).toArray 3)).drew 22 22 3 3 w.heap.size 1 3 3 ⟨w.heap.size, 0, none⟩ 1 4 (nums [1, 0, 0, 0]).toArray 3 [.int .i64 1] Try.underlying22 size_int (Whole.fresh w 3 (nums [1, 0, 0, 0]).toArray) (by rfl) (fun j v hv => (by
      have hw := (Whole.fresh w 3 (nums [1, 0, 0, 0]).toArray).cell j
      have hj : j < 1 := by have := (List.getElem?_eq_some_iff.1 hv).1; simpa using this
      rw [show (⟨w.heap.size, 0, none⟩ : Addr).add j = ⟨w.heap.size, j, none⟩ from by unfold Addr.add; split <;> simp_all]
      refine hw.trans ?_
      rcases (show j = 0 ∨ j = 1 by omega) with rfl | rfl <;> (simp [nums] at hv ⊢; try exact hv))) (by simp [nums]) (by simp [Value.oneCell'])
    have hs : ∀ ds, ((w.alloc (.cells (nums [1, 0, 0, 0]).toArray 3)).drew).setRow w.heap.size ds = (w.alloc (.cells ds 3)).drew := fun ds => by rw [← alloc_setRow w (nums [1, 0, 0, 0]).toArray ds 3]; rfl
    rw [hs] at h
    simpa [nums] using h
  have hcp2 : (Builtin.copy_ #[22, 22] 3 #[.slice (some ⟨w.heap.size, 2, none⟩) 2 2, .slice (some ⟨w.heap.size, 0, none⟩) 2 4]).run Try.prog (w.alloc (.cells (nums [1, 1, 0, 0]).toArray 3)).drew.drew = .ok (goInt 2) (w.alloc (.cells (nums [1, 1, 1, 1]).toArray 3)).drew.drew := by
    have h := run_copy_row (P := Try.prog) (w.alloc (.cells (nums [1, 1, 0, 0]).toArray 3)).drew.drew 22 22 3 3 w.heap.size 2 2 2 ⟨w.heap.size, 0, none⟩ 2 4 (nums [1, 1, 0, 0]).toArray 3 [.int .i64 1, .int .i64 1] Try.underlying22 size_int (Whole.fresh w 3 (nums [1, 1, 0, 0]).toArray) (by rfl) (fun j v hv => (by
      have hw := (Whole.fresh w 3 (nums [1, 1, 0, 0]).toArray).cell j
      have hj : j < 2 := by have := (List.getElem?_eq_some_iff.1 hv).1; simpa using this
      rw [show (⟨w.heap.size, 0, none⟩ : Addr).add j = ⟨w.heap.size, j, none⟩ from by unfold Addr.add; split <;> simp_all]
      refine hw.trans ?_
      rcases (show j = 0 ∨ j = 1 by omega) with rfl | rfl <;> (simp [nums] at hv ⊢; try exact hv))) (by simp [nums]) (by simp [Value.oneCell'])
    have hs : ∀ ds, ((w.alloc (.cells (nums [1, 1, 0, 0]).toArray 3)).drew.drew).setRow w.heap.size ds = (w.alloc (.cells ds 3)).drew.drew := fun ds => by rw [← alloc_setRow w (nums [1, 1, 0, 0]).toArray ds 3]; rfl
    rw [hs] at h
    simpa [nums] using h
  go_enter Try.func203, Try.ntmps203
  go_wp2_with (go_at_call 211; refine (mul_one _ (by omega) (by omega) _).mono ?_; rintro e w' ⟨rfl, rfl⟩)
  refine wp_loop_rounds 3 ?_
  rw [rounds_succ]
  go_wp2
  go_region
  go_wp2
  rw [rounds_succ]
  go_wp2
  go_region
  go_wp2
  rw [rounds_succ]
  go_wp2
  go_ret
  exact ⟨rfl, Whole.fresh w 3 (nums [1, 1, 1, 1]).toArray, (below1 w _).drew.drew⟩
end Go.Proofs.Ytkocompjjogciaa

namespace Go.Proofs.Ytkocompjjogciaa
open Go.RowKit Go.Shelf

attribute [local go_sem] Oper.semAt_some

/-- What has come when k rounds are over. -/
def comeUp {α : Type} (f : Nat → α) (k : Nat) : List α := (List.range k).map f
theorem comeUp_succ {α : Type} (f : Nat → α) (k : Nat) : comeUp f (k + 1) = comeUp f k ++ [f k] := by simp [comeUp, List.range_succ]
theorem comeUp_len {α : Type} (f : Nat → α) (k : Nat) : (comeUp f k).length = k := by simp [comeUp]
/-- What a round keeps: what lay below n₀, and the box that the iterator reads. -/
def KeepB (n₀ Bs : Nat) (W W' : World) : Prop := Below n₀ W W' ∧ W'.heap[Bs]? = W.heap[Bs]?
theorem KeepB.refl (n₀ Bs : Nat) (W : World) : KeepB n₀ Bs W W := ⟨Below.refl _ _, rfl⟩
theorem KeepB.trans {n₀ Bs : Nat} {X Y Z : World} (h : KeepB n₀ Bs X Y) (k : KeepB n₀ Bs Y Z) : KeepB n₀ Bs X Z := ⟨h.1.trans k.1, k.2.trans h.2⟩
/-- The number at a place of a list. -/
def gI (l : List Int) (k : Nat) : Int := l.getD k 0
theorem gI_at {l : List Int} {k : Nat} (h : k < l.length) : gI l k = l[k] := by simp [gI, h]
/-- A place of a list and its number. -/
abbrev PlI (ls : List Int) := { x : Nat × Int // x.1 < ls.length ∧ gI ls x.1 = x.2 }
/-- The k-th of a list from behind, and its place. -/
def bhS (ls : List Int) (h : 0 < ls.length) (k : Nat) : PlI ls := ⟨(ls.length - 1 - k, gI ls (ls.length - 1 - k)), by dsimp only; omega, rfl⟩

set_option maxRecDepth 100000 in
set_option maxHeartbeats 2000000 in
theorem bint1_in (F : Fence) (n : Nat) (hf : F.fn 218) (hro : F.round = none) (hn : 1 ≤ n) (l Bs n₀ b off len cap : Nat) (ls : List Int) (hne : 0 < ls.length) (hlen : ls.length = len) (h40 : len ≤ 40) (hb : b < n₀) (J Jx : List (PlI ls) → World → Prop)
    (hY : ∀ pre x W, J pre W → pre.length < len → YieldAt F (n - 1) Try.prog l #[.int .i64 (x.1.1 : Int), .int .i64 x.1.2] W fun e W' =>
      (e = .returned (.bool true) ∧ J (pre ++ [x]) W' ∧ KeepB n₀ Bs W W') ∨ (e = .returned (.bool false) ∧ Jx (pre ++ [x]) W'))
    (W : World) (hBs : W.cell? ⟨Bs, 0, none⟩ = some (.slice (some ⟨b, off, none⟩) len cap)) (hc : ∀ j u, (nums ls)[j]? = some u → W.cell? ⟨b, off + j, none⟩ = some u) (h0 : J [] W) :
    CallsIn F n Try.prog 218 #[.func (.yield l) #[] #[], .pointer (some ⟨Bs, 0, none⟩)] W fun e W' => (∃ v, e = .returned v) ∧
      ((∃ ys, ys = comeUp (bhS ls hne) len ∧ J ys W') ∨ (∃ pre, (∃ k, k ≤ len ∧ pre = comeUp (bhS ls hne) k) ∧ Jx pre W')) := by
  have hwq : IntKind.i64.wrap ((len : Int) - 1) = (len : Int) - 1 := IntWalk.i64_in _ (by omega)
  refine callsIn_of_wp Try.func218 rfl hf ?_ hro
  simp only [Try.ntmps218, List.size_toArray, List.length_cons, List.length_nil, Nat.reduceAdd, Nat.reduceSub, Array.replicate_succ, Array.replicate_zero, List.push_toArray, List.append_toArray, List.nil_append, List.cons_append]
  gi_wp2
  gi_loopw [3] (fun i wr => ∃ y : Int, -1 ≤ y ∧ y < len ∧ i = .int .i64 y ∧ J (comeUp (bhS ls hne) ((len : Int) - 1 - y).toNat) wr ∧ KeepB n₀ Bs W wr)
    (fun i _ => (intOf i + 1).toNat)
  case atStart => exact ⟨(len : Int) - 1, by omega, by omega, rfl, by rw [show ((len : Int) - 1 - ((len : Int) - 1)).toNat = 0 by omega]; exact h0, KeepB.refl _ _ _⟩
  case round =>
    obtain ⟨y, hy0, hyl, rfl, hJs, hnx⟩ := hrel
    have hbx := (World.cell?_of_block (a := ⟨Bs, 0, none⟩) hnx.2).trans hBs
    by_cases hy : 0 ≤ y
    · obtain ⟨k, rfl⟩ := Int.eq_ofNat_of_zero_le hy
      have hkl : k < ls.length := by omega
      have hc2 : ∀ j u, (nums ls)[j]? = some u → wr.cell? ⟨b, off + j, none⟩ = some u := fun j u hu => (hnx.1.cell (p := ⟨b, off + j, none⟩) hb).trans (hc j u hu)
      obtain ⟨v, hv⟩ : ∃ v, gI ls k = v := ⟨_, rfl⟩
      have m0 : wr.cell? ⟨b, off + k, none⟩ = some (.int .i64 v) := hc2 k _ (by rw [← hv, gI_at hkl]; simp [nums, hkl])
      obtain ⟨fn, tmps, assign, body, hyy, hR⟩ := hY _ ⟨(k, v), hkl, hv⟩ wr hJs (by rw [comeUp_len]; omega)
      have hnext : comeUp (bhS ls hne) ((len : Int) - 1 - (k : Int)).toNat ++ [⟨(k, v), hkl, hv⟩] = comeUp (bhS ls hne) (((len : Int) - 1 - (k : Int)).toNat + 1) := by
        rw [comeUp_succ]
        have hq : ls.length - 1 - ((len : Int) - 1 - (k : Int)).toNat = k := by omega
        congr 1
        simp only [bhS, hq, hv]
      have HNX := Lib.hid hnext
      have hwk : IntKind.i64.wrap ((k : Int) - 1) = (k : Int) - 1 := IntWalk.i64_in _ (by omega)
      have hk0 : (0 : Int) ≤ k := by omega
      have hkL : (k : Int) < len := by omega
      have hkn : k < len := by omega
      clear hnext hJs hc hc2
      gi_wp2
      refine hR.mono ?_
      rintro e W3 (⟨rfl, hJ3, hk3⟩ | ⟨rfl, hJx3⟩)
      · gi_wp2
        go_roundw
        case rel => exact ⟨(k : Int) - 1, by omega, by omega, by go_num, by rw [show ((len : Int) - 1 - ((k : Int) - 1)).toNat = ((len : Int) - 1 - (k : Int)).toNat + 1 by omega, ← HNX.out]; exact hJ3, hnx.trans hk3⟩
        case measure => simp [intOf]
      · gi_wp2
        refine bodyPost_ret (results_none rfl _ _ _) rfl ?_
        exact ⟨⟨_, rfl⟩, .inr ⟨_, ⟨((len : Int) - 1 - (k : Int)).toNat + 1, by omega, HNX.out⟩, hJx3⟩⟩
    · obtain rfl : y = -1 := by omega
      rw [show ((len : Int) - 1 - (-1 : Int)).toNat = len by omega] at hJs
      gi_wp2
      go_end0
      exact ⟨⟨_, rfl⟩, .inl hJs⟩

set_option maxHeartbeats 1000000 in
/-- The iterator's maker: the list's value is boxed, the function value captures the box. -/
theorem bint_in (F : Fence) (n : Nat) (hf : F.fn 212) (hro : F.round = none) (a : Option Addr) (len cap : Nat) (w : World) :
    CallsIn F n Try.prog 212 #[.slice a len cap] w fun e w' => e = .returned (.func (.func 218) #[] #[.pointer (some ⟨w.heap.size, 0, none⟩)]) ∧ w' = w.alloc (.cells #[.slice a len cap] 22) := by
  refine callsIn_of_wp Try.func212 rfl hf ?_ hro
  simp only [Try.ntmps212, List.size_toArray, List.length_cons, List.length_nil, Nat.reduceAdd, Nat.reduceSub, Array.replicate_succ, Array.replicate_zero, List.push_toArray, List.append_toArray, List.nil_append, List.cons_append]
  gi_wp2
  go_ret
  exact ⟨rfl, rfl⟩

theorem bint_stops (F : Fence) (n : Nat) (hf : F.fn 218) (hro : F.round = none) (hn : 1 ≤ n) (Bs n₀ b off len cap : Nat) (ls : List Int) (hne : 0 < ls.length) (hlen : ls.length = len) (h40 : len ≤ 40) (w : World) (hBs : Bs < w.heap.size) (hn₀ : n₀ ≤ w.heap.size)
    (hc : w.cell? ⟨Bs, 0, none⟩ = some (.slice (some ⟨b, off, none⟩) len cap)) (hb : b < n₀) (hcs : ∀ j u, (nums ls)[j]? = some u → w.cell? ⟨b, off + j, none⟩ = some u) :
    SeqStopsK F n Try.prog 218 #[.pointer (some ⟨Bs, 0, none⟩)] (fun x : PlI ls => #[Value.int .i64 (x.1.1 : Int), Value.int .i64 x.1.2]) (KeepB n₀ Bs) (fun ys => ys = comeUp (bhS ls hne) len)
      (fun pre => ∃ k, k ≤ len ∧ pre = comeUp (bhS ls hne) k) len w := fun l J Jx W hW _ _ hY h0 =>
  bint1_in F n hf hro hn l Bs n₀ b off len cap ls hne hlen h40 hb J Jx hY W ((hW.cell (p := ⟨Bs, 0, none⟩) hBs).trans hc) (fun j u hu => (hW.cell (p := ⟨b, off + j, none⟩) (by show b < _; omega)).trans (hcs j u hu)) h0
end Go.Proofs.Ytkocompjjogciaa

namespace Go.Proofs.Ytkocompjjogciaa
open Go.RowKit Go.Shelf Go.BigFrame

attribute [local go_sem] Oper.semAt_some

/-- From the k-th number on all are one more than the k-th was. -/
def nextI (l : List Int) (k : Nat) : List Int := l.take k ++ List.replicate (l.length - k) (gI l k + 1)
/-- The same, j of them laid. -/
def partI (l : List Int) (k j : Nat) : List Int := l.take k ++ List.replicate j (gI l k + 1) ++ l.drop (k + j)
theorem partI_zero (l : List Int) (k : Nat) : partI l k 0 = l := by simp [partI]
theorem partI_done (l : List Int) {k : Nat} (hk : k ≤ l.length) : partI l k (l.length - k) = nextI l k := by
  rw [partI, nextI, List.drop_eq_nil_of_le (by omega), List.append_nil]
theorem partI_len (l : List Int) {k j : Nat} (h : k + j ≤ l.length) : (partI l k j).length = l.length := by
  simp [partI]; omega
theorem partI_set (l : List Int) {k j : Nat} (h : k + j < l.length) : (partI l k j).set (k + j) (gI l k + 1) = partI l k (j + 1) := by
  have hA : (l.take k ++ List.replicate j (gI l k + 1)).length = k + j := by simp; omega
  rw [partI, partI, List.drop_eq_getElem_cons h, List.set_append_right _ _ (by omega), hA, Nat.sub_self, List.set_cons_zero, List.replicate_succ', ← List.append_assoc, List.append_assoc _ [_], List.singleton_append, Nat.add_assoc]
theorem partI_next (l : List Int) {k j : Nat} (h : k + j < l.length) : (nums (partI l k j)).toArray.setIfInBounds (k + j) (.int .i64 (gI l k + 1)) = (nums (partI l k (j + 1))).toArray := by
  rw [← partI_set l h]
  simp [nums, List.map_set]
theorem whole_kept {W W' : World} {g : Nat} {ty : TypeId} {cs : Array Value} {row : Option Nat} (h : Whole W g ty cs) (hg : W.grownBy W' row) (hr : ∀ r, row = some r → ∃ o : Obj, W.heap[r]? = some o ∧ o.isCells = false) : Whole W' g ty cs :=
  (hg.block g h.lt (fun e => by
    obtain ⟨o, ho, hn⟩ := hr g e.symm
    rw [show W.heap[g]? = _ from h] at ho
    obtain rfl := Option.some.inj ho
    cases hn)).trans h

/-- What is known while the step to the next list looks for a number. -/
structure NxI (w : World) (g n : Nat) (m : Int) (l : List Int) (W : World) : Prop where
  box : Whole W w.heap.size 22 #[.slice (some ⟨g, 0, none⟩) n n]
  most : Whole W (w.heap.size + 1) 3 #[.int .i64 m]
  res : Whole W (w.heap.size + 2) 4 #[.bool false]
  iter : Whole W (w.heap.size + 3) 22 #[.slice (some ⟨g, 0, none⟩) n n]
  list : Whole W g 3 (nums l).toArray
  below : Below w.heap.size w W
/-- None of these is less than m. -/
def Passed (m : Int) {l : List Int} (p : List (PlI l)) : Prop := ∀ y ∈ p, ¬ y.1.2 < m
/-- What the step to the next list hands back. -/
def NxPost (w : World) (g : Nat) (m : Int) (l : List Int) (e : Ending) (w' : World) : Prop :=
  (∃ k, k < l.length ∧ gI l k < m ∧ (∀ j, k < j → j < l.length → ¬ gI l j < m) ∧ e = .returned (.bool true) ∧ Whole w' g 3 (nums (nextI l k)).toArray ∧ Span g (g + 1) w w') ∨ ((∀ j, j < l.length → ¬ gI l j < m) ∧ e = .returned (.bool false) ∧ Below w.heap.size w w')
theorem passed_all {m : Int} {l : List Int} {hne : 0 < l.length} {q : Nat} (h : Passed m (comeUp (bhS l hne) q)) {j : Nat} (hj : j < l.length) (hq : l.length - 1 - j < q) : ¬ gI l j < m := by
  have hm : bhS l hne (l.length - 1 - j) ∈ comeUp (bhS l hne) q := List.mem_map.2 ⟨_, List.mem_range.2 hq, rfl⟩
  have := h _ hm
  simpa only [bhS, show l.length - 1 - (l.length - 1 - j) = j by omega] using this
/-- What the step to the next list leaves where it has found one. -/
structure NxX (w : World) (g k : Nat) (l : List Int) (W : World) : Prop where
  res : Whole W (w.heap.size + 2) 4 #[.bool true]
  list : Whole W g 3 (nums (nextI l k)).toArray
  span : Span g (g + 1) w W

set_option linter.unusedSimpArgs false in
set_option maxRecDepth 100000 in
set_option maxHeartbeats 4000000 in
theorem nextList_any (l : List Int) (n g : Nat) (m : Int) (w : World) (hw : Whole w g 3 (nums l).toArray) (hn : l.length = n) (h1 : 1 ≤ n) (h4 : n ≤ 4) (hm0 : 0 ≤ m) (hm : m ≤ 1000) (hl : ∀ y ∈ l, 0 ≤ y ∧ y ≤ 1000) :
    Calls Try.prog 204 #[.slice (some ⟨g, 0, none⟩) n n, .int .i64 m] w (NxPost w g m l) := by
  have HN := Lib.hid hn
  have hgl := hw.lt
  have hb1 := below1 w (.cells #[.slice (some ⟨g, 0, none⟩) n n] 22)
  have w0 := (((Whole.fresh w 22 #[.slice (some ⟨g, 0, none⟩) n n]).alloc (.cells #[.int .i64 m] 3)).alloc (.cells #[.bool false] 4)).alloc (.cells #[.slice (some ⟨g, 0, none⟩) n n] 22)
  have w1 := ((Whole.fresh (w.alloc (.cells #[.slice (some ⟨g, 0, none⟩) n n] 22)) 3 #[.int .i64 m]).alloc (.cells #[.bool false] 4)).alloc (.cells #[.slice (some ⟨g, 0, none⟩) n n] 22)
  have w2 := (Whole.fresh ((w.alloc (.cells #[.slice (some ⟨g, 0, none⟩) n n] 22)).alloc (.cells #[.int .i64 m] 3)) 4 #[.bool false]).alloc (.cells #[.slice (some ⟨g, 0, none⟩) n n] 22)
  have w3 := Whole.fresh (((w.alloc (.cells #[.slice (some ⟨g, 0, none⟩) n n] 22)).alloc (.cells #[.int .i64 m] 3)).alloc (.cells #[.bool false] 4)) 22 #[.slice (some ⟨g, 0, none⟩) n n]
  simp only [World.size_alloc] at w1 w2 w3
  have hb4 := below4 w (.cells #[.slice (some ⟨g, 0, none⟩) n n] 22) (.cells #[.int .i64 m] 3) (.cells #[.bool false] 4) (.cells #[.slice (some ⟨g, 0, none⟩) n n] 22)
  have hI : NxI w g n m l ((((w.alloc (.cells #[.slice (some ⟨g, 0, none⟩) n n] 22)).alloc (.cells #[.int .i64 m] 3)).alloc (.cells #[.bool false] 4)).alloc (.cells #[.slice (some ⟨g, 0, none⟩) n n] 22)) := ⟨w0, w1, w2, w3, hw.below hb4, hb4⟩
  have HI := Lib.hid hI
  have HL := Lib.hid hl
  clear w0 w1 w2 w3 hb4 hI hb1 hn hl
  refine (callsIn_wide (n := 9)).1 ?_
  refine callsIn_of_wp_marks Try.func204 rfl trivial ?_ rfl
  simp only [Try.ntmps204, List.size_toArray, List.length_cons, List.length_nil, Nat.reduceAdd, Nat.reduceSub, Array.replicate_succ, Array.replicate_zero, List.push_toArray, List.append_toArray, List.nil_append, List.cons_append]
  gi_wp2_with fail
  refine ⟨trivial, ?_⟩
  refine (bint_in Fence.wide 8 trivial rfl _ _ _ _).mono ?_
  rintro e w2 ⟨rfl, rfl⟩
  gi_wp2
  obtain ⟨W0, hW0⟩ : ∃ W0, (((w.alloc (.cells #[.slice (some ⟨g, 0, none⟩) n n] 22)).alloc (.cells #[.int .i64 m] 3)).alloc (.cells #[.bool false] 4)).alloc (.cells #[.slice (some ⟨g, 0, none⟩) n n] 22) = W0 := ⟨_, rfl⟩
  have hsz : W0.heap.size = w.heap.size + 4 := by rw [← hW0]; simp
  rw [hW0] at HI ⊢
  clear hW0
  have hne : 0 < l.length := by have := HN.out; omega
  have hints : ∀ j u, (nums l)[j]? = some u → W0.cell? ⟨g, 0 + j, none⟩ = some u := fun j u hu => by rw [Nat.zero_add, HI.out.list.cell j]; simpa using hu
  refine wpIn_rangeFunc_ownG_of_H rfl (by omega) (gf := 218) (lb := #[.pointer (some ⟨w.heap.size + 3, 0, none⟩)]) rfl trivial (enters_of Try.func218 (by kernel_rfl) rfl)
    (bint_stops Fence.wide _ trivial rfl (by omega) (w.heap.size + 3) w.heap.size g 0 n n l hne HN.out (by omega) W0 (by omega) (by omega) HI.out.iter.cells1 hgl hints) KeepB.trans (fun W l o o' hl ho hc hw => ⟨(belowK_b (n₀ := w.heap.size) (w := W0) (by omega) W l o o' hl ho hc hw), (belowK_b (n₀ := W0.heap.size) (w := W0) (Nat.le_refl _) W l o o' hl ho hc hw).block (w.heap.size + 3) (by omega)⟩) (Below.refl _ _) (fun _ => rfl)
    (fun pre W => NxI w g n m l W ∧ Passed m pre)
    (fun c p W => c = .ret ∧ ∃ (pre : List (PlI l)) (x : PlI l), p = pre ++ [x] ∧ Passed m pre ∧ x.1.2 < m ∧ NxX w g x.1.1 l W)
    (fun pre W W' row hs hg hr => by
      obtain ⟨⟨a1, a2, a3, a4, a5, a6⟩, h2⟩ := hs
      exact ⟨⟨whole_kept a1 hg (fun r e => (hr r e).2), whole_kept a2 hg (fun r e => (hr r e).2), whole_kept a3 hg (fun r e => (hr r e).2), whole_kept a4 hg (fun r e => (hr r e).2), whole_kept a5 hg (fun r e => (hr r e).2), a6.grown hg a6.size (fun r e => by have := (hr r e).1; omega)⟩, h2⟩)
    (fun c pre W W' row hs hg hr => by
      obtain ⟨hc, p, x, h1, h2, h3, ⟨a1, a2, a3⟩⟩ := hs
      exact ⟨hc, p, x, h1, h2, h3, ⟨whole_kept a1 hg (fun r e => (hr r e).2), whole_kept a2 hg (fun r e => (hr r e).2), ⟨hg.os.trans a3.os, hg.tape.trans a3.tape, hg.output.trans a3.output, Nat.le_trans a3.size hg.size, fun q hq hne => (hg.block q (Nat.lt_of_lt_of_le hq a3.size) (fun e => by have := (hr q e.symm).1; omega)).trans (a3.block q hq hne)⟩⟩⟩)
    ⟨HI.out, fun y hy => by cases hy⟩
    (fun x => { tmps := #[.slice (some ⟨g, 0, none⟩) n n, .int .i64 m, .pointer (some ⟨w.heap.size, 0, none⟩), .pointer (some ⟨w.heap.size + 1, 0, none⟩), .pointer (some ⟨w.heap.size + 2, 0, none⟩), .int .i64 (x.1.1 : Int), .int .i64 x.1.2, undef, .slice (some ⟨g, 0, none⟩) n n, .func (.func 218) #[] #[.pointer (some ⟨w.heap.size + 3, 0, none⟩)], .int .i64 (x.1.1 : Int), .int .i64 x.1.2, undef, undef, undef, undef, undef, undef, undef, undef, undef, undef, undef, undef, undef, undef, undef, undef, undef, undef], defers := [] })
    ?assign ?body ?done ?stop (fun W => KeepB.refl _ _ W)
  case assign =>
    rintro l pre W K hK
    gi_wp2
    exact hK
  case body =>
    rintro lp pre ⟨⟨i, x⟩, hil, hxl⟩ W ⟨hi, hno⟩ hlt
    dsimp only at hil hxl ⊢
    have cm := hi.most.cells1
    have cb := hi.box.cells1
    have hlb := hi.iter.lt
    have hgw : g < W.heap.size := hi.list.lt
    have HI2 := Lib.hid hi
    have HNO := Lib.hid hno
    have HXL := Lib.hid hxl
    have hin : i < n := by have := HN.out; omega
    have hxb := HL.out x (by rw [← hxl, gI_at hil]; exact List.getElem_mem hil)
    by_cases hxm : x < m
    · have hiI : (i : Int) ≤ n := by omega
      have hi0 : (0 : Int) ≤ i := by omega
      have hwx : IntKind.i64.wrap (x + 1) = x + 1 := IntWalk.i64_in _ (by omega)
      have hlw := hi.list.lt
      clear hi hno
      gi_wp2
      gi_loopw [19] (fun v wr => ∃ j : Nat, v = .int .i64 j ∧ i + j ≤ n ∧ Whole wr w.heap.size 22 #[.slice (some ⟨g, 0, none⟩) n n] ∧ Whole wr g 3 (nums (partI l i j)).toArray ∧ Whole wr (w.heap.size + 2) 4 #[.bool false] ∧ Span g (g + 1) w wr ∧ KeepsOthers W wr) (fun v _ => n - (intOf v).toNat)
      case atStart => exact ⟨0, rfl, by omega, HI2.out.box, by rw [partI_zero]; exact HI2.out.list, HI2.out.res, Span.of_below HI2.out.below _ _, KeepsOthers.refl _⟩
      case round =>
        obtain ⟨j, rfl, hj, hbx, hls, hrs, hsp, hko⟩ := hrel
        have cb := hbx.cells1
        have hgl2 := hls.lt
        by_cases hjn : i + j < n
        · have hjL : i + j < l.length := by have := HN.out; omega
          have hwj : IntKind.i64.wrap ((i : Int) + j) = ((i + j : Nat) : Int) := by rw [← Int.natCast_add]; exact IntWalk.i64_in _ (by omega)
          have hset := hls.set_ (i + j) (.int .i64 (x + 1))
          have hpn := partI_next l (k := i) (j := j) hjL
          rw [hxl] at hpn
          rw [hpn] at hset
          have hfz := hls.open_ (i + j)
          have hsz1 : (nums (partI l i j)).toArray.size = n := by simp [nums, partI_len l (show i + j ≤ l.length by omega)]; exact HN.out
          obtain ⟨u, hu⟩ : ∃ u, (nums (partI l i j)).toArray[i + j]? = some u := ⟨_, Array.getElem?_eq_getElem (by rw [hsz1]; exact hjn)⟩
          have hcell := (hls.cell (i + j)).trans hu
          have HSET := Lib.hid hset
          have HBX := Lib.hid hbx
          have HRS := Lib.hid hrs
          have HSP := Lib.hid hsp
          have HKO := Lib.hid hko
          clear hbx hls hrs hsp hko hset hpn hu hsz1
          gi_wp2
          go_roundw
          case rel => exact ⟨j + 1, by go_num, by omega, HBX.out.off (by omega), HSET.out, HRS.out.off (by omega), HSP.out.trans ⟨rfl, rfl, rfl, by simp [World.setCell], fun q hq hne => Below.heap_setCell _ _ _ _ (by show q ≠ g; omega)⟩, HKO.out.trans (KeepsOthers.setCell _ _ _)⟩
          case measure => simp [intOf]; omega
        · have hjn2 : j = l.length - i := by have := HN.out; omega
          rw [hjn2, partI_done l (Nat.le_of_lt hil)] at hls
          have cr := hrs.cells1
          have fr := hrs.open_ 0
          have HLS := Lib.hid hls
          have HRS := Lib.hid hrs
          have HSP := Lib.hid hsp
          have HKO := Lib.hid hko
          clear hls hrs hsp hko hbx
          gi_wp2
          refine ⟨(HKO.out.trans (KeepsOthers.setCell _ _ _)).from _, rfl, pre, ⟨(i, x), hil, hxl⟩, rfl, HNO.out, hxm, ⟨HRS.out.set_ 0 (.bool true), HLS.out.off (by omega), ⟨HSP.out.os, HSP.out.tape, HSP.out.output, by have := HSP.out.size; simp [World.setCell]; omega, fun q hq hne => (Below.heap_setCell _ _ _ _ (by show q ≠ w.heap.size + 1 + 1; omega)).trans (HSP.out.block q hq hne)⟩⟩⟩
    · clear hi hno
      gi_wp2
      refine ⟨KeepsFrom.refl _ _, KeepB.refl _ _ _, HI2.out, fun y hy => ?_⟩
      rcases List.mem_append.1 hy with hy | hy
      · exact HNO.out y hy
      · obtain rfl := List.mem_singleton.1 hy
        show ¬ x < m
        omega
  case done =>
    rintro D' ys W hD' rfl ⟨hi, hno⟩ hK
    have cr := hi.res.cells1
    have fr := hi.res.open_ 0
    have hlb := hi.iter.lt
    have HI2 := Lib.hid hi
    have HNO := Lib.hid hno
    have hK2 : (W.setCell ⟨w.heap.size + 1 + 1, 0, none⟩ (.bool false)).heap[D']? = some (Obj.deferred (some [])) := (Below.heap_setCell _ _ _ _ (by show D' ≠ w.heap.size + 1 + 1; omega)).trans hK
    clear hi hno
    gi_wp2
    refine ⟨by simp, .inl ⟨_, _, rfl, run_takeDeferred hK2, ?_⟩⟩
    have cr2 : ((W.setCell ⟨w.heap.size + 1 + 1, 0, none⟩ (.bool false)).putObj D' (Obj.deferred none)).cell? ⟨w.heap.size + 1 + 1, 0, none⟩ = some (.bool false) := by
      rw [World.cell?_of_block (World.putObj_heap_other (by show w.heap.size + 1 + 1 ≠ D'; omega))]
      exact (show Whole (W.setCell ⟨w.heap.size + 1 + 1, 0, none⟩ (.bool false)) (w.heap.size + 2) 4 #[.bool false] from HI2.out.res.set_ 0 (.bool false)).cells1
    have hz : w.heap.size ≤ W.heap.size := HI2.out.below.size
    exact ⟨.bool false, by simp [results, Try.results204, go_sem, cr2], .inr ⟨fun j hj => passed_all HNO.out hj (by have := HN.out; omega), rfl, (below_set HI2.out.below (by omega)).grown (grownBy_putObj' _ D' _) (by simp [World.setCell]; omega) (fun k e => by cases e; omega)⟩⟩
  case stop =>
    rintro D' c' p W hD' ⟨k, hk, hp⟩ ⟨rfl, pre, x, hpx, hno, hxm, hx⟩ hK
    have HX := Lib.hid hx
    have HNO := Lib.hid hno
    obtain ⟨q, rfl⟩ : ∃ q, k = q + 1 := by
      cases k with
      | zero => rw [hpx] at hp; simp [comeUp] at hp
      | succ q => exact ⟨q, rfl⟩
    rw [hpx, comeUp_succ] at hp
    obtain ⟨hp1, hp2⟩ := List.append_inj' hp rfl
    simp only [List.cons.injEq, and_true] at hp2
    have HP1 := Lib.hid hp1
    have HP2 := Lib.hid hp2
    have hqn : q < n := by omega
    have hxx : x.1.1 = l.length - 1 - q := by rw [hp2]; rfl
    have cr2 : (W.putObj D' (Obj.deferred none)).cell? ⟨w.heap.size + 1 + 1, 0, none⟩ = some (.bool true) := by
      rw [World.cell?_of_block (World.putObj_heap_other (by show w.heap.size + 1 + 1 ≠ D'; omega))]
      exact HX.out.res.cells1
    have hzW : w.heap.size ≤ W.heap.size := HX.out.span.size
    clear hno hp hp1 hp2 hpx hx
    gi_wp2
    refine ⟨by simp, .inl ⟨_, _, rfl, run_takeDeferred hK, ?_⟩⟩
    exact ⟨.bool true, by simp [results, Try.results204, go_sem, cr2], .inl ⟨x.1.1, x.2.1, by rw [x.2.2]; exact hxm, fun j h1 h2 => passed_all (hne := hne) (q := q) (by rw [← HP1.out]; exact HNO.out) h2 (by omega), rfl,
      whole_kept HX.out.list (grownBy_putObj' W D' _) (fun r e => by cases e; exact ⟨_, hK, rfl⟩), ⟨HX.out.span.os, HX.out.span.tape, HX.out.span.output, Nat.le_trans HX.out.span.size (grownBy_putObj' W D' (Obj.deferred none)).size, fun z hz hne2 => (World.putObj_heap_other (by omega)).trans (HX.out.span.block z hz hne2)⟩⟩⟩
end Go.Proofs.Ytkocompjjogciaa

namespace Go.Proofs.Ytkocompjjogciaa

/-- All lists that go on with n more times from a beginning, not falling. -/
def listsM (most : Nat) : Nat → List Nat → List (List Nat)
  | 0, b => [b]
  | n + 1, b => (List.range most).flatMap fun t => if b.getLastD 1 ≤ t + 1 then listsM most n (b ++ [t + 1]) else []
/-- The next list, told from its end: how many equal their greatest time at the end are passed over. -/
def nextR (most : Nat) : List Nat → Nat → Option (List Nat)
  | [], _ => none
  | x :: xs, n => if x < most then some (List.replicate (n + 1) (x + 1) ++ xs) else nextR most xs (n + 1)
/-- The next list. -/
def nextL (most : Nat) (l : List Nat) : Option (List Nat) := (nextR most l.reverse 0).map List.reverse
/-- Is each one followed by its next one, and the last one by none? -/
def chainOk (most : Nat) : List (List Nat) → Bool
  | [] => false
  | [l] => nextL most l == none
  | l :: m :: r => nextL most l == some m && chainOk most (m :: r)
def startOk (n : Nat) (ls : List (List Nat)) : Bool := ls.head? == some (List.replicate n 1)
set_option maxRecDepth 100000 in
theorem lists_chain : (List.range 4).all (fun p => (List.range 12).all fun m => startOk (p + 1) (listsM (m + 1) (p + 1) []) && chainOk (m + 1) (listsM (m + 1) (p + 1) [])) = true := by decide +kernel
theorem chain_next {most : Nat} : ∀ {ls : List (List Nat)}, chainOk most ls = true → ∀ i (h : i + 1 < ls.length), nextL most (ls[i]'(by omega)) = some ls[i + 1]
  | [], h, _, _ => by simp [chainOk] at h
  | [l], _, i, h => by simp at h
  | l :: m :: r, h, i, hi => by
    simp only [chainOk, Bool.and_eq_true, beq_iff_eq] at h
    cases i with
    | zero => simpa using h.1
    | succ i => exact chain_next h.2 i (by simp only [List.length_cons] at hi ⊢; omega)
theorem chain_last {most : Nat} : ∀ {ls : List (List Nat)}, chainOk most ls = true → ∀ (h : 0 < ls.length), nextL most (ls[ls.length - 1]'(by omega)) = none
  | [], h, _ => by simp [chainOk] at h
  | [l], h, _ => by
    simp only [chainOk, beq_iff_eq] at h
    exact h
  | l :: m :: r, h, _ => by
    simp only [chainOk, Bool.and_eq_true] at h
    have := chain_last h.2 (by simp)
    simpa using this
/-- What both sides list: the first one, each one's next one, the last one. -/
theorem lists_run {p m : Nat} (hp1 : 1 ≤ p) (hp : p ≤ 4) (hm1 : 1 ≤ m) (hm : m ≤ 12) :
    (listsM m p []).head? = some (List.replicate p 1) ∧ (∀ i (h : i + 1 < (listsM m p []).length), nextL m ((listsM m p [])[i]'(by omega)) = some (listsM m p [])[i + 1]) ∧ ∀ (h : 0 < (listsM m p []).length), nextL m ((listsM m p [])[(listsM m p []).length - 1]'(by omega)) = none := by
  have h := List.all_eq_true.1 (List.all_eq_true.1 lists_chain (p - 1) (List.mem_range.2 (by omega))) (m - 1) (List.mem_range.2 (by omega))
  rw [show p - 1 + 1 = p by omega, show m - 1 + 1 = m by omega, Bool.and_eq_true] at h
  exact ⟨by simpa [startOk] using h.1, chain_next h.2, chain_last h.2⟩
end Go.Proofs.Ytkocompjjogciaa

namespace Go.Proofs.Ytkocompjjogciaa
open Go.RowKit

/-- All lists of p times up to m that do not fall, in order. -/
def upL (p m : Nat) : List (List Int) := (listsM m p []).map (·.map Int.ofNat)
/-- The last place before n whose number is less than m. -/
def lastLess (m : Int) (l : List Int) : Nat → Option Nat
  | 0 => none
  | k + 1 => if gI l k < m then some k else lastLess m l k
theorem lastLess_some {m : Int} {l : List Int} {k : Nat} (hk : gI l k < m) : ∀ {n : Nat}, k < n → (∀ j, k < j → j < n → ¬ gI l j < m) → lastLess m l n = some k
  | 0, h, _ => absurd h (by omega)
  | n + 1, h, hr => by
    unfold lastLess
    by_cases he : n = k
    · subst he; rw [if_pos hk]
    · rw [if_neg (hr n (by omega) (by omega))]
      exact lastLess_some hk (by omega) fun j h1 h2 => hr j h1 (by omega)
theorem lastLess_none {m : Int} {l : List Int} : ∀ {n : Nat}, (∀ j, j < n → ¬ gI l j < m) → lastLess m l n = none
  | 0, _ => rfl
  | n + 1, h => by
    unfold lastLess
    rw [if_neg (h n (by omega))]
    exact lastLess_none fun j hj => h j (by omega)
/-- Is each one followed by its next one, and the last one by none? -/
def chI (m : Int) : List (List Int) → Bool
  | [] => false
  | [l] => lastLess m l l.length == none
  | l :: r :: t => (match lastLess m l l.length with | some k => nextI l k == r | none => false) && chI m (r :: t)
def upOk (p m : Nat) : Bool := (upL p m).head? == some (List.replicate p 1) && (chI m (upL p m) && (upL p m).all fun l => l.length == p && l.all fun y => decide (0 ≤ y ∧ y ≤ 1000))
set_option maxRecDepth 100000 in
theorem up_all : (List.range 4).all (fun p => (List.range 12).all fun m => upOk (p + 1) (m + 1)) = true := by decide +kernel
theorem chI_next {m : Int} : ∀ {ls : List (List Int)}, chI m ls = true → ∀ i (h : i + 1 < ls.length), ∃ k, lastLess m (ls[i]'(by omega)) (ls[i]'(by omega)).length = some k ∧ nextI (ls[i]'(by omega)) k = ls[i + 1]
  | [], h, _, _ => by simp [chI] at h
  | [l], h, i, hi => by simp at hi
  | l :: r :: t, h, i, hi => by
    simp only [chI, Bool.and_eq_true] at h
    cases i with
    | zero =>
      cases hl : lastLess m l l.length with
      | none => rw [hl] at h; exact absurd h.1 (by simp)
      | some k => rw [hl] at h; exact ⟨k, hl, by simpa using h.1⟩
    | succ i => exact chI_next h.2 i (by simp only [List.length_cons] at hi ⊢; omega)
theorem chI_last {m : Int} : ∀ {ls : List (List Int)}, chI m ls = true → ∀ (h : 0 < ls.length), lastLess m (ls[ls.length - 1]'(by omega)) (ls[ls.length - 1]'(by omega)).length = none
  | [], h, _ => by simp [chI] at h
  | [l], h, _ => by
    simp only [chI, beq_iff_eq] at h
    exact h
  | l :: r :: t, h, _ => by
    simp only [chI, Bool.and_eq_true] at h
    have := chI_last h.2 (by simp)
    simpa using this
theorem chI_pos {m : Int} {ls : List (List Int)} (h : chI m ls = true) : 0 < ls.length := by
  cases ls with
  | nil => simp [chI] at h
  | cons l r => simp
theorem upOk_of {p m : Nat} (hp1 : 1 ≤ p) (hp : p ≤ 4) (hm1 : 1 ≤ m) (hm : m ≤ 12) : (upL p m).head? = some (List.replicate p 1) ∧ chI m (upL p m) = true ∧ ∀ l ∈ upL p m, l.length = p ∧ ∀ y ∈ l, 0 ≤ y ∧ y ≤ 1000 := by
  have h := List.all_eq_true.1 (List.all_eq_true.1 up_all (p - 1) (List.mem_range.2 (by omega))) (m - 1) (List.mem_range.2 (by omega))
  rw [show p - 1 + 1 = p by omega, show m - 1 + 1 = m by omega] at h
  simp only [upOk, Bool.and_eq_true, beq_iff_eq, List.all_eq_true, decide_eq_true_eq] at h
  exact h
end Go.Proofs.Ytkocompjjogciaa

namespace Go.Proofs.Ytkocompjjogciaa
open Go.RowKit

/-- What a call hands back that makes a list of lists, with what lies in it. -/
def MadeUp (ls : List (List Int)) (w : World) (e : Ending) (w' : World) : Prop :=
  ∃ (A : Option Addr) (c : Nat) (rs : List RowV), e = .returned (.slice A rs.length c) ∧ rowNums rs = ls ∧ Heads w' w.heap.size A c rs ∧ Below w.heap.size w w'
theorem Heads.lower {w : World} {lo lo' c : Nat} {A : Option Addr} {rs : List RowV} (h : Heads w lo A c rs) (hl : lo' ≤ lo) : Heads w lo' A c rs := by
  obtain ⟨h1, ps, f1, f2, f3⟩ := h
  exact ⟨own_lower h1 hl, ps, f1, fun q hq => ⟨Nat.le_trans hl (f2 q hq).1, (f2 q hq).2⟩, f3⟩
def lenV : Value → Nat | .slice _ n _ => n | _ => 0

theorem repeat_any (p : Nat) (h1 : 1 ≤ p) (h4 : p ≤ 4) (B : Nat) (w : World) (hB : Whole w B 3 #[.int .i64 1]) :
    Calls Try.prog 203 #[.slice (some ⟨B, 0, none⟩) 1 1, .int .i64 (p : Int)] w fun e w' => e = .returned (.slice (some ⟨w.heap.size, 0, none⟩) p p) ∧ Whole w' w.heap.size 3 (nums (List.replicate p 1)).toArray ∧ Below w.heap.size w w' := by
  rcases (show p = 1 ∨ p = 2 ∨ p = 3 ∨ p = 4 by omega) with rfl | rfl | rfl | rfl
  · exact repeat_1 B w hB
  · exact repeat_2 B w hB
  · exact repeat_3 B w hB
  · exact repeat_4 B w hB

set_option maxHeartbeats 3200000 in
set_option maxRecDepth 100000 in
theorem listsUpTo_any (p m : Nat) (w : World) (hp1 : 1 ≤ p) (hp4 : p ≤ 4) (hm1 : 1 ≤ m) (hm12 : m ≤ 12) (hsz : (upL p m).length ≤ 5000) :
    Calls Try.prog 194 #[.int .i64 (p : Int), .int .i64 (m : Int)] w (MadeUp (upL p m) w) := by
  obtain ⟨i0, hi, hz0, hz1, hz2⟩ := info_parts info_row
  have HI := Lib.hid hi
  have HZ0 := Lib.hid hz0
  have HZ1 := Lib.hid hz1
  have HZ2 := Lib.hid hz2
  obtain ⟨hu1, hu2, hu3⟩ := upOk_of hp1 hp4 hm1 hm12
  obtain ⟨L, hL⟩ : ∃ L, L = upL p m := ⟨_, rfl⟩
  rw [← hL] at hu1 hu2 hu3 hsz ⊢
  have HCH := Lib.hid hu2
  have HROW := Lib.hid hu3
  have hpos := chI_pos hu2
  have HHD : Hid (L[0]'hpos = List.replicate p 1) := by
    show _ = _
    rw [List.head?_eq_getElem?, List.getElem?_eq_getElem hpos] at hu1
    exact Option.some.inj hu1
  have hw0 := Whole.fresh w 3 #[.int .i64 1]
  have hb0 := below1 w (.cells #[.int .i64 1] 3)
  have HB0 := Lib.hid hb0
  clear hi hz0 hz1 hz2 hu1 hu2 hu3 hL hb0
  go_enter Try.func194, Try.ntmps194
  go_wp2_with fail
  refine (repeat_any p hp1 hp4 w.heap.size _ hw0).mono ?_
  rintro e w1 ⟨rfl, hr1, hb1⟩
  simp only [World.size_alloc] at hr1 ⊢
  have hg1 := hr1.lt
  have HB1 := Lib.hid (below_then HB0.out hb1 HB0.out.size)
  have HR1 : Hid (Whole w1 (w.heap.size + 1) 3 (nums (L[0]'hpos)).toArray) := by show Whole _ _ _ _; rw [HHD.out]; exact hr1
  clear hw0 hr1 hb1
  go_wp2
  go_loopw [5, 7] (fun v b wr => ∃ (i : Nat) (A : Option Addr) (c : Nat) (rs : List RowV) (l : List Int), v = .slice A i c ∧ b = .bool (decide (i < L.length)) ∧ i ≤ L.length ∧ rs.length = i ∧ rowNums rs = L.take i ∧ Heads wr (w.heap.size + 2) A c rs ∧ Whole wr (w.heap.size + 1) 3 (nums l).toArray ∧ (∀ h : i < L.length, l = L[i]) ∧ Below w.heap.size w wr ∧ w.heap.size + 2 ≤ wr.heap.size) (fun v _ _ => L.length + 1 - lenV v)
  case atStart => exact ⟨0, none, 0, [], L[0]'hpos, rfl, by rw [decide_eq_true hpos], by omega, rfl, rfl, Heads.nil _ _, HR1.out, fun _ => rfl, HB1.out, by omega⟩
  case round =>
    obtain ⟨i, A, c, rs, l, rfl, rfl, hiL, hri, hrn, hh, hlw, hll, hb, hlo⟩ := hrel
    have HH := Lib.hid hh
    have HRN := Lib.hid hrn
    have HRI := Lib.hid hri
    have HB := Lib.hid hb
    by_cases hlt : i < L.length
    · have hl := hll hlt
      subst hl
      obtain ⟨hlen, hbd⟩ := HROW.out _ (List.getElem_mem hlt)
      have hd : decide (i < L.length) = true := decide_eq_true hlt
      have HLW := Lib.hid hlw
      have HLEN := Lib.hid hlen
      have HBD := Lib.hid hbd
      rw [hd]
      clear hd
      have hgl := hlw.lt
      clear hll hh hrn hri hb hlw hlen hbd
      go_wp2_with fail
      refine (cloneO_any (some ⟨w.heap.size + 1, 0, none⟩) p p L[i] _ (by have := HLW.out.holds; simpa using this) HLEN.out (by omega) (fun h => by cases h)).mono ?_
      rintro e w3 ⟨A2, q2, rfl, hown2, hb2⟩
      rw [HLEN.out] at hown2 ⊢
      have hbs2 : wr.heap.size ≤ w3.heap.size := hb2.size
      have hoh := ((HH.out.below hb2).alloc (.cells #[.slice A2 p q2] 22)).1
      rw [HRI.out] at hoh
      have HOWN := Lib.hid hoh
      have HF := Lib.hid (Fresh.of_own hown2 (Nat.le_refl _))
      have HB2 := Lib.hid hb2
      have HMAX := Lib.hid (show i + 1 ≤ maxLen by unfold maxLen; omega)
      have HBYT := Lib.hid (show (i + 1) * 24 ≤ 140737488355328 by omega)
      have HBASE := Lib.hid (show w.heap.size + 2 ≤ (w3.alloc (.cells #[.slice A2 p q2] 22)).heap.size by simp; omega)
      clear hown2 hb2 hoh
      go_wp2_with (at_builtin; refine wpList_append_lies _ rfl (.tmp 15) (.tmp 18) 28 rfl (w.heap.size + 2) 22 i0 (.slice none 0 0) 1 24 Try.underlying28 HI.out HZ0.out HZ1.out HZ2.out rfl (by decide) (.slice A i c) i (rowVals rs) rfl HOWN.out ⟨w3.heap.size, 0, none⟩ 1 1 [.slice A2 p q2] rfl rfl (cell_one_new _ _ _) (by simp [Value.oneCell']) (by decide) HMAX.out HBYT.out HBASE.out (w3.heap.size + 1) (by simp) ?_; intro g cap w4 hown4 hg4 hat hlt4)
      have hlw4 : Whole w4 (w.heap.size + 1) 3 (nums L[i]).toArray := (hg4.block (w.heap.size + 1) (by simp; omega) (fun e => by have := (HOWN.out.lt _ e.symm).1; omega)).trans ((HLW.out.below HB2.out).alloc _)
      have HB4 := Lib.hid (((below_then HB.out HB2.out HB.out.size).alloc (by have := HB.out.size; omega) (.cells #[.slice A2 p q2] 22)).grown hg4 (by have := HB.out.size; simp; omega) (fun kk e => by have := (HOWN.out.lt kk e).1; omega))
      obtain ⟨A3, q3, hv3, hf3⟩ := HF.out
      simp only [Value.slice.injEq, true_and] at hv3
      obtain ⟨rfl, rfl⟩ := hv3
      have hp2 : Heads w4 (w.heap.size + 2) (some ⟨g, 0, none⟩) cap (rs ++ [⟨A2, p, q2, L[i]⟩]) := by
        have hown5 := hown4
        have hg5 := hg4
        have hat5 := hat
        rw [← HRI.out] at hown5 hg5 hat5
        exact Heads.push (r := ⟨A2, p, q2, L[i]⟩) HH.out hlo HB2.out hf3 HLEN.out (by show p ≤ _; omega) hown5 hg5 hat5
      have HP2 := Lib.hid hp2
      have HRN2 : Hid (rowNums (rs ++ [⟨A2, p, q2, L[i]⟩]) = L.take (i + 1)) := by
        show _ = _
        rw [show rowNums (rs ++ [⟨A2, p, q2, L[i]⟩]) = rowNums rs ++ [L[i]] by simp [rowNums], HRN.out, List.take_succ_eq_append_getElem hlt]
      have HRI2 : Hid ((rs ++ [⟨A2, p, q2, L[i]⟩] : List RowV).length = i + 1) := by show _ = _; rw [List.length_append, HRI.out]; rfl
      have hz4 : w.heap.size + 2 ≤ w4.heap.size := by have := hp2.1.lt g rfl; omega
      clear hp2 hown4 hg4 hat hf3
      refine (nextList_any L[i] p (w.heap.size + 1) m w4 hlw4 HLEN.out hp1 hp4 (by omega) (by omega) HBD.out).mono ?_
      rintro e w5 hpost
      rcases hpost with ⟨k, hk, hkl, hrest, rfl, hw5, hsp⟩ | ⟨hno, rfl, hb5⟩
      · have hls := lastLess_some hkl hk hrest
        have hi1 : i + 1 < L.length := by
          rcases Nat.lt_or_ge (i + 1) L.length with h | h
          · exact h
          · have h0 := chI_last HCH.out hpos
            simp only [show L.length - 1 = i by omega] at h0
            rw [h0] at hls
            cases hls
        obtain ⟨k', hk', hnx⟩ := chI_next HCH.out i hi1
        rw [hls] at hk'
        obtain rfl := Option.some.inj hk'
        have HW5 : Hid (Whole w5 (w.heap.size + 1) 3 (nums L[i + 1]).toArray) := by show Whole _ _ _ _; rw [← hnx]; exact hw5
        have HH5 := Lib.hid (HP2.out.same hsp.size fun q h1 h2 => hsp.block q h2 (.inr (by omega)))
        have HB5 := Lib.hid (hsp.below HB4.out (by omega) (by omega))
        have hz5 : w.heap.size + 2 ≤ w5.heap.size := Nat.le_trans hz4 hsp.size
        clear hls hk' hnx hw5 hsp hlw4 hrest hkl hk
        go_wp2
        go_roundw
        case rel => exact ⟨i + 1, some ⟨g, 0, none⟩, cap, rs ++ [⟨A2, p, q2, L[i]⟩], L[i + 1], rfl, by rw [decide_eq_true hi1], by omega, HRI2.out, HRN2.out, HH5.out, HW5.out, fun _ => rfl, HB5.out, hz5⟩
        case measure => simp [lenV]; omega
      · have hls := lastLess_none hno
        have hi1 : i + 1 = L.length := by
          rcases Nat.lt_or_ge (i + 1) L.length with h | h
          · obtain ⟨k', hk', -⟩ := chI_next HCH.out i h
            rw [hls] at hk'
            cases hk'
          · omega
        have HW5 := Lib.hid (hlw4.below hb5)
        have HH5 := Lib.hid (HP2.out.below hb5)
        have HB5 := Lib.hid (below_then HB4.out hb5 (by omega))
        have hz5 : w.heap.size + 2 ≤ w5.heap.size := Nat.le_trans hz4 hb5.size
        clear hls hno hb5 hlw4
        go_wp2
        go_roundw
        case rel => exact ⟨i + 1, some ⟨g, 0, none⟩, cap, rs ++ [⟨A2, p, q2, L[i]⟩], L[i], by first | rfl | rw [hi1], by rw [decide_eq_false (by omega)], by omega, HRI2.out, HRN2.out, HH5.out, HW5.out, fun h => absurd h (by omega), HB5.out, hz5⟩
        case measure => simp [lenV]; omega
    · have hiE : i = L.length := by omega
      have hd : decide (i < L.length) = false := decide_eq_false hlt
      rw [hd]
      clear hd hll hh hrn hri hb hlw
      go_wp2
      go_ret
      subst hiE
      exact ⟨A, c, rs, by rw [HRI.out]; rfl, by rw [HRN.out, List.take_length], HH.out.lower (by omega), HB.out⟩
end Go.Proofs.Ytkocompjjogciaa

namespace Go.Proofs.Ytkocompjjogciaa
open Go.RowKit

theorem tailT_filter {f g : List Int → List (List Int)} {P : List Int → Bool} (h : ∀ b, f b = (g b).filter P) (b : List Int) : ∀ j, tailT f b j = (tailT g b j).filter P
  | 0 => rfl
  | j + 1 => by simp only [tailT, List.filter_append, h, tailT_filter h b j]
theorem goOn_filter (P : List Int → Bool) : ∀ (n : Nat) (b : List Int), goOn P n b = (goOn (fun _ => true) n b).filter P
  | 0, b => by
    simp only [goOn, if_true]
    by_cases h : P b = true
    · rw [if_pos h, List.filter_cons_of_pos h]; rfl
    · rw [if_neg h, List.filter_cons_of_neg h]; rfl
  | n + 1, b => tailT_filter (goOn_filter P n) b _
set_option maxRecDepth 100000 in
theorem up6_all : (List.range 4).all (fun p => goOn (fun _ => true) (p + 1) [] == upL (p + 1) 6 && ((upL (p + 1) 6).all hidI && decide ((upL (p + 1) 6).length ≤ 126))) = true := by decide +kernel
theorem up6_of {p : Nat} (h1 : 1 ≤ p) (h4 : p ≤ 4) : goOn (fun _ => true) p [] = upL p 6 ∧ (∀ l ∈ upL p 6, hidI l = true) ∧ (upL p 6).length ≤ 126 := by
  have h := List.all_eq_true.1 up6_all (p - 1) (List.mem_range.2 (by omega))
  rw [show p - 1 + 1 = p by omega] at h
  simp only [Bool.and_eq_true, beq_iff_eq, List.all_eq_true, decide_eq_true_eq] at h
  exact h
theorem solI_filter {p : Nat} (h1 : 1 ≤ p) (h4 : p ≤ 4) (cs : List Cl) : solI p cs = (upL p 6).filter (allFit cs) := by
  unfold solI
  rw [Int.toNat_natCast, goOn_filter, (up6_of h1 h4).1]

/-- What Solutions hands back. -/
def SolPost (ls : List (List Int)) (ok : Bool) (w : World) (e : Ending) (w' : World) : Prop :=
  ∃ (A : Option Addr) (c : Nat) (rs : List RowV), e = .returned (.tuple #[.slice A rs.length c, .bool ok]) ∧ rowNums rs = ls ∧ Heads w' w.heap.size A c rs ∧ Below w.heap.size w w'

/-- The rows of a list that hold what fits. -/
def fitR (cs : List Cl) (r : RowV) : Bool := allFit cs r.xs
theorem nums_filter (cs : List Cl) (rs : List RowV) : rowNums (rs.filter (fitR cs)) = (rowNums rs).filter (allFit cs) := by
  simp only [rowNums, List.filter_map]; rfl
theorem filter_next {cs : List Cl} {rs : List RowV} {i : Nat} (h : i < rs.length) (hf : fitR cs rs[i] = true) : (rs.take (i + 1)).filter (fitR cs) = (rs.take i).filter (fitR cs) ++ [rs[i]] := by
  rw [List.take_succ_eq_append_getElem h, List.filter_append, List.filter_cons_of_pos hf]; rfl
theorem filter_pass {cs : List Cl} {rs : List RowV} {i : Nat} (h : i < rs.length) (hf : fitR cs rs[i] = false) : (rs.take (i + 1)).filter (fitR cs) = (rs.take i).filter (fitR cs) := by
  rw [List.take_succ_eq_append_getElem h, List.filter_append, List.filter_cons_of_neg (by simp [hf])]; simp

set_option maxHeartbeats 3200000 in
set_option maxRecDepth 100000 in
theorem implSolutions_any (p : Int) (A : Option Addr) (n c : Nat) (cs : List Cl) (w : World) (hA : Holds w A (clsC cs)) (hx : cs.length = n) (hn : n ≤ 1048576) :
    Calls Try.prog 179 #[.agg #[.int .i64 p, .slice A n c]] w (SolPost (solsI p cs) (pzOk p cs) w) := by
  obtain ⟨i0, hi, hz0, hz1, hz2⟩ := info_parts info_row
  have HI := Lib.hid hi
  have HZ0 := Lib.hid hz0
  have HZ1 := Lib.hid hz1
  have HZ2 := Lib.hid hz2
  have hbl := below1 w (.cells #[.int .i64 p, .slice A n c] 83)
  have hw0 := Whole.fresh w 83 #[.int .i64 p, .slice A n c]
  have HBL := Lib.hid hbl
  have HA := Lib.hid (hA.below hbl)
  have H0 := Lib.hid hw0
  have HX := Lib.hid hx
  clear hi hz0 hz1 hz2
  obtain ⟨c0, c1⟩ := hw0.cells2
  have hlt0 := hw0.lt
  cases hok : pzOk p cs
  · have HOK := Lib.hid hok
    have HS := Lib.hid (solsI_no hok)
    clear hbl hA hx hok hw0
    go_enter Try.func179, Try.ntmps179
    go_wp2_with fail
    refine (isPuzzle_any p A n c cs _ HA.out HX.out hn).mono ?_
    rintro e w2 ⟨rfl, hb⟩
    rw [HOK.out]
    have HF := Lib.hid (below_then HBL.out hb HBL.out.size)
    clear hb
    go_wp2
    go_ret2
    exact ⟨none, 0, [], rfl, by rw [HS.out]; rfl, Heads.nil _ _, HF.out⟩
  · have HOK := Lib.hid hok
    obtain ⟨hp1, hp4, hl6, hall⟩ := pzOk_parts hok
    obtain ⟨P, rfl⟩ := Int.eq_ofNat_of_zero_le (show 0 ≤ p by omega)
    have hP1 : 1 ≤ P := by omega
    have hP4 : P ≤ 4 := by omega
    have HS : Hid (solsI (P : Int) cs = (upL P 6).filter (allFit cs)) := by show _ = _; rw [solsI_yes hok, solI_filter hP1 hP4]
    obtain ⟨-, hu1, hu2⟩ := up6_of hP1 hP4
    have hu3 := (upOk_of hP1 hP4 (show 1 ≤ 6 by omega) (by omega)).2.2
    obtain ⟨L, hL⟩ : ∃ L, L = upL P 6 := ⟨_, rfl⟩
    have HUP := Lib.hid (listsUpTo_any P 6)
    rw [← hL] at HS HUP hu1 hu2 hu3
    have HU1 := Lib.hid hu1
    have HU3 := Lib.hid hu3
    have HALL := Lib.hid hall
    have hmf : ∀ (fn : Fn) (first cap : Array Value) (w : World), (Instr.makeFunc fn first cap).run Try.prog w = .ok (.func fn first cap) w := fun _ _ _ _ => rfl
    clear hbl hA hx hok hw0 hall hu1 hu3 hL
    go_enter Try.func179, Try.ntmps179
    go_wp2_with fail
    refine (isPuzzle_any P A n c cs _ HA.out HX.out hn).mono ?_
    rintro e w2 ⟨rfl, hb⟩
    rw [HOK.out]
    have HF := Lib.hid (below_then HBL.out hb HBL.out.size)
    have HA2 := Lib.hid (HA.out.below hb)
    have hq2 := H0.out.below hb
    have HQ2 := Lib.hid hq2
    clear c0 c1 hlt0
    obtain ⟨c0, c1⟩ := hq2.cells2
    have hlt0 := hq2.lt
    clear hb hq2
    go_wp2_with fail
    refine (HUP.out w2 hP1 hP4 (by omega) (by omega) (by omega)).mono ?_
    rintro e w3 ⟨A3, c3, rs, rfl, hr, hh, hb⟩
    have hq3 := HQ2.out.below hb
    have HQ3 := Lib.hid hq3
    have HA3 := Lib.hid (HA2.out.below hb)
    have HB3 := Lib.hid (below_then HF.out hb HF.out.size)
    have HR := Lib.hid hr
    have HH := Lib.hid hh
    have HW23 := Lib.hid hb.size
    have hrl : rs.length ≤ 126 := by have h := congrArg List.length hr; rw [rowNums_len] at h; omega
    clear hr hh hb hq3 c0 c1 hlt0
    go_wp2
    go_loopw [4, 14] (fun v i wr => ∃ (k : Nat) (D : Option Addr) (d : Nat), k ≤ rs.length ∧ i = .int .i64 k ∧ v = .slice D ((rs.take k).filter (fitR cs)).length d ∧ wr.ownsRow w3.heap.size 22 1 (.slice D ((rs.take k).filter (fitR cs)).length d) ((rs.take k).filter (fitR cs)).length (rowVals ((rs.take k).filter (fitR cs))) ∧ Below w3.heap.size w3 wr) (fun _ i _ => rs.length - (intOf i).toNat)
    case atStart => exact ⟨0, none, 0, Nat.zero_le _, rfl, rfl, World.ownsRow_nil _ _ _ _, Below.refl _ _⟩
    case round =>
      obtain ⟨k, D, d, hk, rfl, rfl, hown, hb⟩ := hrel
      have HOWN := Lib.hid hown
      have HB := Lib.hid hb
      clear hown
      by_cases hlt : k < rs.length
      · have hG := HH.out.free.grid
        have hkl : k < (rowNums rs).length := by rw [rowNums_len]; exact hlt
        have hmem : rs[k].xs ∈ L := by rw [← HR.out, ← rowNums_get hlt]; exact List.getElem_mem hkl
        have hhid := HU1.out _ hmem
        obtain ⟨hrlen, -⟩ := HU3.out _ hmem
        obtain ⟨b1, o1, rfl, hbl1, hc, hok⟩ := (hG.below hb).look hlt
        obtain ⟨R, hR⟩ : ∃ R, R = rs[k] := ⟨_, rfl⟩
        rw [← hR] at hc hok hhid hrlen
        have HFN := Lib.hid (fun h => filter_next (cs := cs) hlt h)
        have HFP := Lib.hid (fun h => filter_pass (cs := cs) hlt h)
        rw [← hR] at HFN HFP
        obtain ⟨rA, rn, rc, rxs⟩ := R
        replace hc : World.cell? wr ⟨b1, o1 + k, none⟩ = some (.slice rA rn rc) := hc
        replace hhid : hidI rxs = true := hhid
        obtain ⟨hrow, hrn, -⟩ := hok
        replace hrow : Holds wr rA (nums rxs) := hrow
        replace hrn : rxs.length = rn := hrn
        replace hrlen : rxs.length = P := hrlen
        have hrP : (P : Int) = rn := by omega
        have hq4 := HQ3.out.below (hb.mono (Nat.le_refl _))
        obtain ⟨c0, c1⟩ := hq4.cells2
        have hlt0 := hq4.lt
        have HQ4 := Lib.hid hq4
        have hW4 := Whole.fresh wr 22 #[.slice rA rn rc]
        have hb4 := below1 wr (.cells #[.slice rA rn rc] 22)
        have HCON := Lib.hid (containsC_any P A n c cs rA rn rc rxs wr.heap.size _ ((HA3.out.below hb).below hb4) HX.out hn hW4 (hrow.below hb4) hrn hhid HALL.out hrP)
        have HW4 := Lib.hid hW4
        have HB4 := Lib.hid (below_then hb hb4 hb.size)
        have HOW4 := Lib.hid (own_below HOWN.out hb4)
        have hkI : (k : Int) < rs.length := by omega
        have hflt : ((rs.take k).filter (fitR cs)).length ≤ 126 := Nat.le_trans (List.length_filter_le _ _) (by simp; omega)
        have hwz : w3.heap.size ≤ wr.heap.size := hb.size
        obtain ⟨F, hF⟩ : ∃ F, F = (rs.take k).filter (fitR cs) := ⟨_, rfl⟩
        rw [← hF] at HFN HFP HOW4 hflt
        rw [← hF]
        have HFE := Lib.hid hF
        clear hG hkl hmem hrow hq4 hW4 hb4 hb hF hR HOWN hrP hrn hrlen hhid
        go_wp2_with fail
        refine HCON.out.mono ?_
        rintro e w5 ⟨rfl, hb5⟩
        have hw5 := HW4.out.below hb5
        have d0 := hw5.cells1
        have hlt5 := hw5.lt
        have HB5 := Lib.hid (below_then HB4.out hb5 HB4.out.size)
        have HOW5 := Lib.hid ((own_below HOW4.out hb5).alloc (.cells #[.slice rA rn rc] 22))
        have hz5 : w3.heap.size ≤ w5.heap.size := HB5.out.size
        cases hfit : allFit cs rxs
        · have HF2 := Lib.hid (HFP.out hfit)
          have HO5 := Lib.hid (own_below HOW4.out hb5)
          clear hb5 hw5 hfit
          go_wp2
          go_roundw
          case rel => exact ⟨k + 1, D, d, by omega, by go_num, by rw [HF2.out], by rw [HF2.out]; exact HO5.out, HB5.out⟩
          case measure => simp [intOf]; omega
        · have HF2 := Lib.hid (HFN.out hfit)
          have HMAX := Lib.hid (show F.length + 1 ≤ maxLen by unfold maxLen; omega)
          have HBYT := Lib.hid (show (F.length + 1) * 24 ≤ 140737488355328 by omega)
          have HBASE := Lib.hid (show w3.heap.size ≤ (w5.alloc (.cells #[.slice rA rn rc] 22)).heap.size by simp; omega)
          clear hb5 hw5 hfit
          go_wp2_with (at_builtin; refine wpList_append_lies _ rfl (.tmp 23) (.tmp 25) 28 rfl w3.heap.size 22 i0 (.slice none 0 0) 1 24 Try.underlying28 HI.out HZ0.out HZ1.out HZ2.out rfl (by decide) (.slice D F.length d) F.length (rowVals F) rfl HOW5.out ⟨w5.heap.size, 0, none⟩ 1 1 [.slice rA rn rc] rfl rfl (cell_one_new _ _ _) (by simp [Value.oneCell']) (by decide) HMAX.out HBYT.out HBASE.out (w5.heap.size + 1) (by simp) ?_; intro g cap w6 hown6 hg6 hat hlt6)
          have HB6 := Lib.hid ((HB5.out.alloc hz5 (.cells #[.slice rA rn rc] 22)).grown hg6 HBASE.out (fun kk e => (HOW5.out.lt kk e).1))
          have HO6 : Hid (w6.ownsRow w3.heap.size 22 1 (.slice (some ⟨g, 0, none⟩) (F.length + 1) cap) (F.length + 1) (rowVals (F ++ [⟨rA, rn, rc, rxs⟩]))) := by
            show World.ownsRow _ _ _ _ _ _ _
            rw [show rowVals (F ++ [⟨rA, rn, rc, rxs⟩]) = rowVals F ++ [.slice rA rn rc] by simp [rowVals, RowV.val]]
            exact hown6
          clear hown6 hg6 hat hlt6
          go_roundw
          case rel => exact ⟨k + 1, some ⟨g, 0, none⟩, cap, by omega, by go_num, by rw [HF2.out, List.length_append]; rfl, by rw [HF2.out, List.length_append]; exact HO6.out, HB6.out⟩
          case measure => simp [intOf]; omega
      · obtain rfl : k = rs.length := by omega
        rw [List.take_length]
        have ho := HOWN.out
        rw [List.take_length] at ho
        have HHD := Lib.hid ((Heads.part_of (fitR cs) HH.out HB.out ho HW23.out).lower (lo' := w.heap.size) HF.out.size)
        have HBB := Lib.hid (below_then HB3.out HB.out HB3.out.size)
        clear hb ho
        go_wp2
        go_ret2
        exact ⟨D, d, _, rfl, by rw [nums_filter, HR.out, HS.out], HHD.out, HBB.out⟩
end Go.Proofs.Ytkocompjjogciaa

namespace Go.Proofs.Ytkocompjjogciaa
open Go.RowKit

theorem solsI_len (p : Int) (cs : List Cl) : (solsI p cs).length ≤ 1296 := by
  cases h : pzOk p cs
  · rw [solsI_no h]; simp
  · obtain ⟨h1, h4, -⟩ := pzOk_parts h
    rw [solsI_yes h]
    exact solI_len cs h1 h4
theorem heads_len {w : World} {lo c : Nat} {A : Option Addr} {rs : List RowV} (h : Heads w lo A c rs) {ls : List (List Int)} (hr : rowNums rs = ls) : rs.length = ls.length := by rw [← hr, rowNums_len]
/-- The first row of a list of the call's own. -/
theorem heads_first {w : World} {lo c : Nat} {A : Option Addr} {rs : List RowV} (h : Heads w lo A c rs) (h0 : 0 < rs.length) : Fresh w lo w.heap.size 3 (rs[0]).A (nums (rs[0]).xs) ∧ (rs[0]).xs.length = (rs[0]).n := by
  obtain ⟨-, ps, ⟨k1, k2, k3⟩, h3, -⟩ := h
  have hp : ps[0]? = some (ps[0]'(by omega)) := List.getElem?_eq_getElem (by omega)
  obtain ⟨f1, f2, -⟩ := k2 0 rs[0] _ (List.getElem?_eq_getElem h0) hp
  have hm := h3 _ (List.mem_of_getElem? hp)
  exact ⟨f1.more hm.1 hm.2, f2⟩
theorem first_of {rs : List RowV} {ls : List (List Int)} (hr : rowNums rs = ls) (h0 : 0 < rs.length) : (rs[0]).xs = ls.headD [] := by
  subst hr
  cases rs with
  | nil => simp at h0
  | cons r t => rfl

set_option maxHeartbeats 800000 in
theorem pzSolved_any (p : Int) (CA : Option Addr) (cn cc : Nat) (cs : List Cl) (w : World) (hCA : Holds w CA (clsC cs)) (hcn : cs.length = cn) (hc6 : cn ≤ 6) (hok : cs.all (clOk p) = true) (hp1 : 1 ≤ p) (hp4 : p ≤ 4) :
    Calls Try.prog 122 #[.int .i64 p, .slice CA cn cc] w fun e w' => e = .returned (.bool (decide ((solI p cs).length = 1))) ∧ Below w.heap.size w w' := by
  have HALL := Lib.hid (pzAll_any p CA cn cc cs w hCA hcn hc6 hok hp1 hp4)
  have HLE := Lib.hid (solI_len cs hp1 hp4)
  clear hCA hok
  go_enter Try.func122, Try.ntmps122
  go_wp2_with fail
  refine HALL.out.mono ?_
  rintro e w3 ⟨A3, c3, rs, rfl, hr, hh, hb⟩
  have HRL := Lib.hid (heads_len hh hr)
  have hrl : rs.length ≤ 1296 := by rw [heads_len hh hr]; exact HLE.out
  by_cases h1 : rs.length = 1
  · have hb1 : ((rs.length : Int) == 1) = true := by simp [h1]
    have H1 : Hid (decide ((solI p cs).length = 1) = true) := by show _ = _; rw [← HRL.out]; exact decide_eq_true h1
    clear hr hh h1
    go_wp2
    go_ret
    exact ⟨ret_of (by rw [H1.out]; first | rfl | simp_all), hb⟩
  · have hb1 : ((rs.length : Int) == 1) = false := by simp; omega
    have H1 : Hid (decide ((solI p cs).length = 1) = false) := by show _ = _; rw [← HRL.out]; exact decide_eq_false h1
    clear hr hh h1
    go_wp2
    go_ret
    exact ⟨ret_of (by rw [H1.out]; first | rfl | simp_all), hb⟩

/-- What FirstSolution hands back. -/
def FirstPost (ls : List (List Int)) (w : World) (e : Ending) (w' : World) : Prop :=
  ∃ (B : Option Addr) (q : Nat), e = .returned (.tuple #[.slice B (ls.headD []).length q, .bool (decide (0 < ls.length))]) ∧ Fresh w' w.heap.size w'.heap.size 3 B (nums (ls.headD [])) ∧ Below w.heap.size w w'

set_option maxHeartbeats 1600000 in
theorem implCountSolutions_any (p : Int) (A : Option Addr) (n c : Nat) (cs : List Cl) (w : World) (hA : Holds w A (clsC cs)) (hx : cs.length = n) (hn : n ≤ 1048576) :
    Calls Try.prog 164 #[.agg #[.int .i64 p, .slice A n c]] w fun e w' => e = .returned (.tuple #[.int .i64 ((solsI p cs).length : Int), .bool (pzOk p cs)]) ∧ Below w.heap.size w w' := by
  have hbl := below1 w (.cells #[.int .i64 p, .slice A n c] 83)
  have HBL := Lib.hid hbl
  have HC := Lib.hid (implSolutions_any p A n c cs _ (hA.below hbl) hx hn)
  have HLE := Lib.hid (solsI_len p cs)
  clear hbl hA hx
  go_enter Try.func164, Try.ntmps164
  go_wp2_with fail
  refine HC.out.mono ?_
  rintro e w3 ⟨A3, c3, rs, rfl, hr, hh, hb⟩
  have HR := Lib.hid hr
  have hrl : rs.length ≤ 1296 := by rw [heads_len hh hr]; exact HLE.out
  have HRL := Lib.hid (heads_len hh hr)
  have HH := Lib.hid (hh.lower (lo' := w.heap.size) HBL.out.size)
  have HB := Lib.hid (below_then HBL.out hb HBL.out.size)
  clear hr hh hb
  go_wp2
  go_ret2
  rw [← HRL.out]
  exact ⟨rfl, HB.out⟩

set_option maxHeartbeats 1600000 in
theorem implIsSolved_any (p : Int) (A : Option Addr) (n c : Nat) (cs : List Cl) (w : World) (hA : Holds w A (clsC cs)) (hx : cs.length = n) (hn : n ≤ 1048576) :
    Calls Try.prog 124 #[.agg #[.int .i64 p, .slice A n c]] w fun e w' => e = .returned (.tuple #[.bool (decide ((solsI p cs).length = 1)), .bool (pzOk p cs)]) ∧ Below w.heap.size w w' := by
  have hbl := below1 w (.cells #[.int .i64 p, .slice A n c] 83)
  have HBL := Lib.hid hbl
  have HC := Lib.hid (implCountSolutions_any p A n c cs _ (hA.below hbl) hx hn)
  have HLE := Lib.hid (solsI_len p cs)
  clear hbl hA hx
  go_enter Try.func124, Try.ntmps124
  go_wp2_with fail
  refine HC.out.mono ?_
  rintro e w3 ⟨rfl, hb⟩
  have HB := Lib.hid (below_then HBL.out hb HBL.out.size)
  obtain ⟨z, hz⟩ : ∃ z, z = (solsI p cs).length := ⟨_, rfl⟩
  rw [← hz]
  have HZ := Lib.hid hz
  clear hb hz
  by_cases h1 : z = 1
  · have hb1 : ((z : Int) == 1) = true := by simp [h1]
    have H1 : Hid (decide (z = 1) = true) := decide_eq_true h1
    clear h1
    go_wp2
    go_ret2
    rw [← HZ.out]
    exact ⟨by rw [H1.out]; first | rfl | simp_all, HB.out⟩
  · have hb1 : ((z : Int) == 1) = false := by simp; omega
    have H1 : Hid (decide (z = 1) = false) := decide_eq_false h1
    clear h1
    go_wp2
    go_ret2
    rw [← HZ.out]
    exact ⟨by rw [H1.out]; first | rfl | simp_all, HB.out⟩

theorem pzOk_nil (p : Int) : pzOk p [] = within p 1 4 := by simp [pzOk]
end Go.Proofs.Ytkocompjjogciaa

namespace Go.Proofs.Ytkocompjjogciaa
open Go.RowKit

/-- How many hidden times match a clue alone. -/
def oneC (cs : List Cl) (k : Nat) : List Cl := (cs.drop k).take 1
def cntAt (p : Int) (cs : List Cl) (k : Nat) : Int := ((solI p (oneC cs k)).length : Int)
def aloneI (p : Int) (cs : List Cl) (k : Nat) : List Int := (List.range k).map (cntAt p cs)
theorem aloneI_len (p : Int) (cs : List Cl) (k : Nat) : (aloneI p cs k).length = k := by simp [aloneI]
theorem aloneI_next (p : Int) (cs : List Cl) (k : Nat) : aloneI p cs (k + 1) = aloneI p cs k ++ [cntAt p cs k] := by simp [aloneI, List.range_succ]
theorem aloneI_at {p : Int} {cs : List Cl} {k j : Nat} (h : j < (aloneI p cs k).length) : (aloneI p cs k)[j] = cntAt p cs j := by simp [aloneI]
/-- The best one of the first clues, and its number. -/
def bestTo (p : Int) (cs : List Cl) : Nat → Int × Int
  | 0 => (0, 0)
  | k + 1 => if k = 0 ∨ cntAt p cs k < (bestTo p cs k).2 then ((k : Int), cntAt p cs k) else bestTo p cs k
theorem bestTo_take {p : Int} {cs : List Cl} {k : Nat} (h : k = 0 ∨ cntAt p cs k < (bestTo p cs k).2) : bestTo p cs (k + 1) = ((k : Int), cntAt p cs k) := by
  show (if _ then _ else _) = _
  exact if_pos h
theorem bestTo_keep {p : Int} {cs : List Cl} {k : Nat} (h : ¬ (k = 0 ∨ cntAt p cs k < (bestTo p cs k).2)) : bestTo p cs (k + 1) = bestTo p cs k := by
  show (if _ then _ else _) = _
  exact if_neg h
theorem bestTo_inv (p : Int) (cs : List Cl) : ∀ k, ∃ b : Nat, b < k + 1 ∧ (bestTo p cs (k + 1)).1 = b ∧ (bestTo p cs (k + 1)).2 = cntAt p cs b ∧ (∀ j, j < k + 1 → cntAt p cs b ≤ cntAt p cs j) ∧ ∀ j, j < b → cntAt p cs b < cntAt p cs j := by
  intro k
  induction k with
  | zero =>
    refine ⟨0, by omega, ?_, ?_, fun j hj => ?_, fun j hj => absurd hj (by omega)⟩
    · rw [bestTo_take (.inl rfl)]
    · rw [bestTo_take (.inl rfl)]
    · obtain rfl : j = 0 := by omega
      exact Int.le_refl _
  | succ k ih =>
    obtain ⟨b, h1, h2, h3, h4, h5⟩ := ih
    by_cases h : cntAt p cs (k + 1) < (bestTo p cs (k + 1)).2
    · rw [bestTo_take (.inr h)]
      rw [h3] at h
      refine ⟨k + 1, by omega, rfl, rfl, fun j hj => ?_, fun j hj => ?_⟩
      · rcases Nat.lt_or_ge j (k + 1) with hlt | hge
        · have := h4 j hlt; omega
        · obtain rfl : j = k + 1 := by omega
          exact Int.le_refl _
      · have := h4 j hj; omega
    · rw [bestTo_keep (fun h0 => h0.elim (fun h1 => by omega) h)]
      refine ⟨b, by omega, h2, h3, fun j hj => ?_, h5⟩
      rcases Nat.lt_or_ge j (k + 1) with hlt | hge
      · exact h4 j hlt
      · obtain rfl : j = k + 1 := by omega
        rw [h3] at h
        omega
theorem best_unique {p : Int} {cs : List Cl} {n r : Nat} (hn : 0 < n) (hr : r < (aloneI p cs n).length) (h1 : (aloneI p cs n)[r] = leastOf (aloneI p cs n)) (h2 : NoneI (aloneI p cs n) (leastOf (aloneI p cs n)) r) : (r : Int) = (bestTo p cs n).1 := by
  obtain ⟨k, rfl⟩ : ∃ k, n = k + 1 := ⟨n - 1, by omega⟩
  obtain ⟨b, g1, g2, -, g4, g5⟩ := bestTo_inv p cs k
  rw [g2]
  have hl := aloneI_len p cs (k + 1)
  have hbl : b < (aloneI p cs (k + 1)).length := by omega
  have hrb := aloneI_at hr
  have hbb := aloneI_at hbl
  have m1 : leastOf (aloneI p cs (k + 1)) ≤ cntAt p cs b := by rw [← hbb]; exact leastOf_le (List.getElem_mem hbl)
  have m2 : cntAt p cs b ≤ leastOf (aloneI p cs (k + 1)) := by rw [← h1, hrb]; exact g4 r (by omega)
  rcases Nat.lt_trichotomy r b with h | h | h
  · have := g5 r h; rw [← hrb, h1] at this; omega
  · rw [h]
  · exact absurd (by rw [hbb]; omega) (h2 b hbl h)
def bestOk (p : Int) (cs : List Cl) : Bool := pzOk p cs && decide (0 < cs.length)
def bestI (p : Int) (cs : List Cl) : Int := if bestOk p cs then (bestTo p cs cs.length).1 else 0
theorem best_no {p : Int} {cs : List Cl} (h : bestOk p cs = false) : bestI p cs = 0 := if_neg (by simp [h])
theorem best_yes {p : Int} {cs : List Cl} (h : bestOk p cs = true) : bestI p cs = (bestTo p cs cs.length).1 := if_pos h
theorem all_one {p : Int} {cs : List Cl} (h : cs.all (clOk p) = true) (k : Nat) : (oneC cs k).all (clOk p) = true :=
  List.all_eq_true.2 fun x hx => List.all_eq_true.1 h x (List.mem_of_mem_drop (List.mem_of_mem_take hx))
theorem oneC_len {cs : List Cl} {k : Nat} (hk : k < cs.length) : (oneC cs k).length = 1 := by simp [oneC]; omega
theorem pzOk_oneC {p : Int} {cs : List Cl} (h : pzOk p cs = true) {k : Nat} (hk : k < cs.length) : pzOk p (oneC cs k) = true := by
  obtain ⟨h1, h4, h6, ha⟩ := pzOk_parts h
  simp only [pzOk, Bool.and_eq_true, within_iff, decide_eq_true_eq]
  exact ⟨⟨h1, h4⟩, by rw [oneC_len hk]; omega, all_one ha k⟩
theorem count_one {p : Int} {cs : List Cl} (h : pzOk p cs = true) {k : Nat} (hk : k < cs.length) : ((solsI p (oneC cs k)).length : Int) = cntAt p cs k := by rw [solsI_yes (pzOk_oneC h hk)]; rfl
/-- One clue lies in the midst of the clues. -/
theorem cls_one {w : World} {b o k : Nat} {cs : List Cl} (h : Holds w (some ⟨b, o, none⟩) (clsC cs)) (hk : k < cs.length) : Holds w (some ⟨b, o + k * 3, none⟩) (clsC (oneC cs k)) := by
  rcases h with h | ⟨b', o', hA, hb, hc⟩
  · have := clsC_len cs
    rw [h] at this
    simp at this
    omega
  · cases hA
    refine .inr ⟨b, o + k * 3, rfl, hb, fun j u hu => ?_⟩
    have hs : clsC cs = clsC (cs.take k) ++ (clsC (oneC cs k) ++ clsC ((cs.drop k).drop 1)) := by
      rw [← clsC_app, ← clsC_app, oneC, List.take_append_drop, List.take_append_drop]
    have hl : (clsC (cs.take k)).length = k * 3 := by rw [clsC_len, List.length_take]; congr 1; omega
    have := hc (k * 3 + j) u (by
      rw [hs, List.getElem?_append_right (by omega), hl, show k * 3 + j - k * 3 = j by omega, List.getElem?_append_left (List.getElem?_eq_some_iff.1 hu).1]
      exact hu)
    rw [show o + k * 3 + j = o + (k * 3 + j) by omega]
    exact this
def BestPost (p : Int) (cs : List Cl) (w : World) (e : Ending) (w' : World) : Prop := e = .returned (.tuple #[.int .i64 (bestI p cs), .bool (bestOk p cs)]) ∧ Below w.heap.size w w'

set_option maxHeartbeats 800000 in
theorem part_one (p : Int) (b o n c k : Nat) (w : World) (hk : k < n) (hcc : c ≤ 1048576) (hc : n ≤ c) (hn : n ≤ 1048576) :
    Calls Try.prog 117 #[.agg #[.int .i64 p, .slice (some ⟨b, o, none⟩) n c], .int .i64 (k : Int), .int .i64 ((k : Int) + 1)] w fun e w' => e = .returned (.agg #[.int .i64 p, .slice (some ⟨b, o + k * 3, none⟩) 1 1]) ∧ Below w.heap.size w w' := by
  have h0 := (Whole.fresh w 83 #[.int .i64 p, .slice (some ⟨b, o, none⟩) n c]).alloc (.cells #[.int .i64 0, .slice none 0 0] 83)
  have h1 := Whole.fresh (w.alloc (.cells #[.int .i64 p, .slice (some ⟨b, o, none⟩) n c] 83)) 83 #[.int .i64 0, .slice none 0 0]
  have HB := Lib.hid (below2 w (.cells #[.int .i64 p, .slice (some ⟨b, o, none⟩) n c] 83) (.cells #[.int .i64 0, .slice none 0 0] 83))
  have hk0 : (0 : Int) ≤ k := by omega
  have hkk : (k : Int) ≤ (k : Int) + 1 := by omega
  have hkc : (k : Int) + 1 ≤ (c : Int) := by omega
  have hkc2 : k + 1 ≤ c := by omega
  have hk2 : k + 1 - k = 1 := by omega
  have hkp : (0 : Int) ≤ (k : Int) + 1 := by omega
  have hkt : ((k : Int) + 1).toNat = k + 1 := by omega
  go_enter Try.func117, Try.ntmps117
  go_wp2
  obtain ⟨c0, c1⟩ := h0.cells2
  obtain ⟨r0, r1, f0, f1⟩ := h1.two
  rw [World.size_alloc] at r0 r1 f0 f1
  have hl0 := h0.lt
  have hP := Whole.fresh (w.alloc (.cells #[.int .i64 p, .slice (some ⟨b, o, none⟩) n c] 83)) 83 #[.int .i64 p, .slice (some ⟨b, o + k * 3, none⟩) 1 1]
  have HB2 := Lib.hid ((below2 w (.cells #[.int .i64 p, .slice (some ⟨b, o, none⟩) n c] 83) (.cells #[.int .i64 p, .slice (some ⟨b, o + k * 3, none⟩) 1 1] 83)).drew)
  rw [World.size_alloc] at hP
  have hP2 := hP.drew
  go_region_held3 (fun w' => w'.cell? ⟨w.heap.size, 0, none⟩ = some (.int .i64 p) ∧ w'.cell? ⟨w.heap.size, 1, none⟩ = some (.slice (some ⟨b, o, none⟩) n c)) (go_keep) (fail)
  obtain ⟨s0, s1, -, -⟩ := hP2.two
  clear h0 h1 c0 c1 r0 r1 f0 f1 hP hP2
  go_wp2
  refine bodyPost_ret (v := .agg #[.int .i64 p, .slice (some ⟨b, o + k * 3, none⟩) 1 1]) (by simp [results, Try.results117, go_sem, s0, s1]) rfl ⟨rfl, HB2.out⟩
theorem numsC_snoc (l : List Int) (x : Int) : nums (l ++ [x]) = nums l ++ [.int .i64 x] := by simp [nums]
theorem own_freshC {w : World} {lo n c : Nat} {ty : TypeId} {A : Option Addr} {xs : List Value} (h : w.ownsRow lo ty 1 (.slice A n c) n xs) : Fresh w lo w.heap.size ty A xs := by
  obtain ⟨A', c', hv, hf⟩ := Fresh.of_own h (Nat.le_refl _)
  cases hv
  exact hf

end Go.Proofs.Ytkocompjjogciaa

namespace Go.Proofs.Ytkocompjjogciaa
open Go.RowKit

/-- The numbers of clues, one behind the other. -/
def flat (cs : List Cl) : List Int := cs.flatMap fun c => [c.1, c.2.1, c.2.2]
theorem clsC_flat (cs : List Cl) : clsC cs = nums (flat cs) := by
  induction cs with
  | nil => rfl
  | cons c cs ih =>
    show (clC c).toList ++ clsC cs = _
    rw [ih]
    simp [flat, nums, clC]
theorem flat_len (cs : List Cl) : (flat cs).length = cs.length * 3 := by
  have h := clsC_len cs
  rw [clsC_flat, nums_len] at h
  exact h
theorem flat_get {cs : List Cl} {k : Nat} (hk : k < cs.length) :
    (flat cs)[k * 3]'(by rw [flat_len]; omega) = cs[k].1 ∧ (flat cs)[k * 3 + 1]'(by rw [flat_len]; omega) = cs[k].2.1 ∧ (flat cs)[k * 3 + 2]'(by rw [flat_len]; omega) = cs[k].2.2 := by
  have h0 := clsC_at (cs := cs) hk (j := 0) (by omega)
  have h1 := clsC_at (cs := cs) hk (j := 1) (by omega)
  have h2 := clsC_at (cs := cs) hk (j := 2) (by omega)
  simp only [clsC_flat, nums, List.getElem?_map, List.getElem?_eq_getElem (show k * 3 + 0 < (flat cs).length by rw [flat_len]; omega), List.getElem?_eq_getElem (show k * 3 + 1 < (flat cs).length by rw [flat_len]; omega), List.getElem?_eq_getElem (show k * 3 + 2 < (flat cs).length by rw [flat_len]; omega), clC, Option.map_some] at h0 h1 h2
  simp at h0 h1 h2
  exact ⟨h0, h1, h2⟩
theorem filled_row {cs : List Cl} {k : Nat} (hk : k < cs.length) : (((filled (flat cs) (k * 3)).setIfInBounds (k * 3) (.int .i64 cs[k].1)).setIfInBounds (k * 3 + 1) (.int .i64 cs[k].2.1)).setIfInBounds (k * 3 + 2) (.int .i64 cs[k].2.2) = filled (flat cs) ((k + 1) * 3) := by
  obtain ⟨h0, h1, h2⟩ := flat_get hk
  rw [← h0, ← h1, ← h2, filled_next _ (by rw [flat_len]; omega), filled_next _ (by rw [flat_len]; omega), filled_next _ (by rw [flat_len]; omega)]
  rw [show k * 3 + 2 + 1 = (k + 1) * 3 by omega]
theorem filled_some (xs : List Int) (k : Nat) {j : Nat} (hj : j < xs.length) : ∃ u, (filled xs k)[j]? = some u := by
  have h : j < (filled xs k).size := by simp [filled, nums]; omega
  exact ⟨_, Array.getElem?_eq_getElem h⟩
theorem made_zeros3 (n : Nat) : madeCells (Value.agg #[.int .i64 0, .int .i64 0, .int .i64 0]).cells (n * 3) = (nums (List.replicate (n * 3) 0)).toArray := by
  apply Array.ext_getElem?
  intro j
  have hm : j % 3 = 0 ∨ j % 3 = 1 ∨ j % 3 = 2 := by omega
  simp only [madeCells, nums, Value.cells]
  by_cases h : j < n * 3
  · rcases hm with hm | hm | hm <;> simp [h, hm]
  · simp [h]
theorem info_clue : (Try.prog.info? 87).map (fun i => (i.zero, i.size, i.bytes)) = some (some (.agg #[.int .i64 0, .int .i64 0, .int .i64 0]), 3, 24) := by kernel_rfl

set_option maxHeartbeats 400000 in
theorem toClue_any (k a b : Int) (w : World) : Calls Try.prog 57 #[.agg #[.int .i64 k, .int .i64 a, .int .i64 b]] w fun e w' => e = .returned (.agg #[.int .i64 k, .int .i64 a, .int .i64 b]) ∧ Below w.heap.size w w' := by
  go_enter Try.func57, Try.ntmps57
  go_wp2
  exact bodyPost_ret (v := .agg #[.int .i64 k, .int .i64 a, .int .i64 b]) (by simp [results, Try.results57, go_sem]) rfl ⟨rfl, below3 w _ _ _⟩

set_option maxHeartbeats 400000 in
theorem szClueS_any (A : Option Addr) (n c : Nat) (l : Int) (w : World) (hn : n ≤ 9223372036854775807) (h0 : 0 ≤ l) (h1 : l ≤ 1048576) :
    Calls Try.prog 113 #[.slice A n c, .int .i64 l] w fun e w' => e = .returned (.int .i64 (if l < n then -1 else l - n)) ∧ w = w' := by
  by_cases h : l < n
  · have h' : l - n < 0 := by omega
    go_enter Try.func113, Try.ntmps113
    go_wp2
    go_ret
    exact ⟨rfl, rfl⟩
  · have h' : ¬ l - n < 0 := by omega
    go_enter Try.func113, Try.ntmps113
    go_wp2
    go_ret
    exact ⟨rfl, rfl⟩

set_option maxHeartbeats 400000 in
theorem szPuzzle_any (s : Int) (A : Option Addr) (n c : Nat) (l : Int) (w : World) (hn : n ≤ 9223372036854775807) (h0 : 0 ≤ l) (h1 : l ≤ 1048576) :
    Calls Try.prog 54 #[.agg #[.int .i64 s, .slice A n c], .int .i64 l] w fun e w' => e = .returned (.int .i64 (if l < n then -1 else l - n)) ∧ Below w.heap.size w w' := by
  by_cases h : l < n
  all_goals
    go_enter Try.func54, Try.ntmps54
    go_wp2_with fail
    refine (szClueS_any A n c l _ hn h0 h1).mono ?_
    rintro e w' ⟨rfl, rfl⟩
    first | rw [if_pos (by assumption)] | rw [if_neg (by omega)]
    go_wp2
    go_ret
    exact ⟨rfl, (Below.refl _ _).alloc (Nat.le_refl _) _⟩

set_option maxHeartbeats 1600000 in
theorem toClueS_own (A : Option Addr) (n c : Nat) (cs : List Cl) (w : World) (hA : Holds w A (clsC cs)) (hx : cs.length = n) (hn : n ≤ 1048576) :
    Calls Try.prog 116 #[.slice A n c] w fun e w' => e = .returned (.slice (some ⟨w.heap.size, 0, none⟩) n n) ∧ Whole w' w.heap.size 87 (clsC cs).toArray ∧ Below w.heap.size w w' := by
  subst hx
  obtain ⟨i0, hi, hz0, hz1, hz2⟩ := info_parts info_clue
  have hmk : ∀ W : World, (Instr.makeSlice 81 (.int .i64 (cs.length : Int)) (.int .i64 (cs.length : Int))).run Try.prog W = .ok (.slice (some ⟨W.heap.size, 0, none⟩) cs.length cs.length) (W.alloc (.cells (filled (flat cs) 0) 87)) := by
    intro W
    have h := run_make (P := Try.prog) W 81 87 i0 _ Try.underlying81 hi hz0 .i64 .i64 cs.length cs.length (by omega) (by omega) (by rw [hz2]; omega) (by omega)
    simp only [Int.toNat_natCast, hz1, made_zeros3] at h
    rw [h]
    simp [filled, flat_len]
  clear hi hz0 hz1 hz2
  go_enter Try.func116, Try.ntmps116
  go_wp2
  have h0 := Whole.fresh w 87 (filled (flat cs) 0)
  have hb0 : Below w.heap.size w (w.alloc (.cells (filled (flat cs) 0) 87)) := (Below.refl _ _).alloc (Nat.le_refl _) _
  go_loopw [4] (fun i wr => ∃ k : Nat, k ≤ cs.length ∧ i = .int .i64 k ∧ Whole wr w.heap.size 87 (filled (flat cs) (k * 3)) ∧ Below w.heap.size w wr) (fun i _ => cs.length - (intOf i).toNat)
  case atStart => exact ⟨0, Nat.zero_le _, rfl, h0, hb0⟩
  case round =>
    obtain ⟨k, hk, rfl, hw, hb⟩ := hrel
    clear hmk h0 hb0
    by_cases hlt : k < cs.length
    · obtain ⟨b, o, rfl, hbl, c0, c1, c2⟩ := cls_look (hA.below hb) hlt
      obtain ⟨⟨x1, x2, x3⟩, hx⟩ : ∃ x, x = cs[k] := ⟨_, rfl⟩
      rw [← hx] at c0 c1 c2
      dsimp only at c0 c1 c2
      have hkl : (k : Int) < cs.length := by omega
      have HW := Lib.hid hw
      have HB := Lib.hid hb
      have HX := Lib.hid hx
      clear hw hb hx
      go_wp2_with fail
      refine (toClue_any x1 x2 x3 _).mono ?_
      rintro e w2 ⟨rfl, hb2⟩
      have hw2 := HW.out.below hb2
      have hlt2 := hw2.lt
      obtain ⟨v0, d0⟩ := filled_some (flat cs) (k * 3) (j := k * 3) (by rw [flat_len]; omega)
      obtain ⟨v1, d1⟩ := filled_some (flat cs) (k * 3) (j := k * 3 + 1) (by rw [flat_len]; omega)
      obtain ⟨v2, d2⟩ := filled_some (flat cs) (k * 3) (j := k * 3 + 2) (by rw [flat_len]; omega)
      have e0 := (hw2.cell (k * 3)).trans d0
      have e1 := (hw2.cell (k * 3 + 1)).trans d1
      have e2 := (hw2.cell (k * 3 + 2)).trans d2
      have f0 := hw2.open_ (k * 3)
      have f1 := hw2.open_ (k * 3 + 1)
      have f2 := hw2.open_ (k * 3 + 2)
      have hn2 := ((hw2.set_ (k * 3) (.int .i64 x1)).set_ (k * 3 + 1) (.int .i64 x2)).set_ (k * 3 + 2) (.int .i64 x3)
      have hrow := filled_row hlt
      rw [← HX.out] at hrow
      dsimp only at hrow
      rw [hrow] at hn2
      have HN := Lib.hid hn2
      have HB2 := Lib.hid (HB.out.trans (hb2.mono HB.out.size))
      clear hn2 hrow hw2 hb2 d0 d1 d2
      go_wp2
      go_roundw
      case rel => exact ⟨k + 1, by omega, by go_num, HN.out, ((HB2.out.setCell (p := ⟨w.heap.size, k * 3, none⟩) (Nat.le_refl _) _).setCell (p := ⟨w.heap.size, k * 3 + 1, none⟩) (Nat.le_refl _) _).setCell (p := ⟨w.heap.size, k * 3 + 2, none⟩) (Nat.le_refl _) _⟩
      case measure => simp [intOf]; omega
    · have hkn : k = cs.length := by omega
      subst hkn
      have hd : filled (flat cs) (cs.length * 3) = (clsC cs).toArray := by rw [← flat_len, filled_done, clsC_flat]
      rw [hd] at hw
      have HW := Lib.hid hw
      clear hw hd
      go_wp2
      go_ret
      exact ⟨rfl, HW.out, hb⟩

set_option maxHeartbeats 800000 in
theorem toPuzzle_own (s : Int) (A : Option Addr) (n c : Nat) (cs : List Cl) (w : World) (hA : Holds w A (clsC cs)) (hx : cs.length = n) (hn : n ≤ 1048576) :
    Calls Try.prog 56 #[.agg #[.int .i64 s, .slice A n c]] w fun e w' => ∃ g, e = .returned (.agg #[.int .i64 s, .slice (some ⟨g, 0, none⟩) n n]) ∧ w.heap.size ≤ g ∧ Whole w' g 87 (clsC cs).toArray ∧ Below w.heap.size w w' := by
  have HX := Lib.hid hx
  clear hx
  have hy0 := (Whole.fresh (w.alloc (.cells #[.int .i64 s, .slice A n c] 77)) 83 #[.int .i64 0, .slice none 0 0]).alloc (.cells #[.int .i64 s, .slice none 0 0] 83)
  have hz0 := Whole.fresh ((w.alloc (.cells #[.int .i64 s, .slice A n c] 77)).alloc (.cells #[.int .i64 0, .slice none 0 0] 83)) 83 #[.int .i64 s, .slice none 0 0]
  simp only [World.size_alloc] at hy0 hz0
  have HY := Lib.hid hy0
  have HZ := Lib.hid hz0
  clear hy0 hz0
  go_enter Try.func56, Try.ntmps56
  go_wp2_with fail
  refine (toClueS_own A n c cs _ (((hA.alloc _).alloc _).alloc _) HX.out hn).mono ?_
  rintro e w1 ⟨rfl, hw, hb⟩
  have hy1 := HY.out.below hb
  have hz1 := HZ.out.below hb
  obtain ⟨y0, y1⟩ := hy1.cells2
  obtain ⟨z0, z1⟩ := hz1.cells2
  have yf0 := hy1.open_ 0
  have yf1 := hy1.open_ 1
  have zf1 := hz1.open_ 1
  have hbs := hb.size
  have hz : w.heap.size + 3 < w1.heap.size := by have := hw.lt; simp at this; omega
  have hw' : Whole w1 (w.heap.size + 1 + 1 + 1) 87 (clsC cs).toArray := by simpa using hw
  have hb' : Below w.heap.size w w1 := below_then (below3 w _ _ _) hb (by simp; omega)
  have HW := Lib.hid hw'
  have HB := Lib.hid hb'
  clear hw hb hy1 hz1 hw' hb'
  go_wp2
  refine bodyPost_ret (v := .agg #[.int .i64 s, .slice (some ⟨w.heap.size + 1 + 1 + 1, 0, none⟩) n n]) (by simp [results, Try.results56, go_sem, y0, y1, z0, z1]) rfl ⟨_, rfl, by omega, ?_, ?_⟩
  · exact ((HW.out.off (by omega)).off (by omega)).off (by omega)
  · exact below_set (below_set (below_set HB.out (by omega)) (by omega)) (by omega)
end Go.Proofs.Ytkocompjjogciaa

namespace Go.Proofs.Ytkocompjjogciaa
open Go.RowKit

/-- The clues without one. -/
def woC (cs : List Cl) (k : Nat) : List Cl := cs.take k ++ cs.drop (k + 1)
theorem woC_len {cs : List Cl} {k : Nat} (hk : k < cs.length) : (woC cs k).length = cs.length - 1 := by
  simp only [woC, List.length_append, List.length_take, List.length_drop]
  omega
theorem all_wo {p : Int} {cs : List Cl} (h : cs.all (clOk p) = true) (k : Nat) : (woC cs k).all (clOk p) = true :=
  List.all_eq_true.2 fun x hx => List.all_eq_true.1 h x ((List.mem_append.1 hx).elim List.mem_of_mem_take List.mem_of_mem_drop)
theorem pzOk_wo {p : Int} {cs : List Cl} (h : pzOk p cs = true) {k : Nat} (hk : k < cs.length) : pzOk p (woC cs k) = true := by
  obtain ⟨h1, h4, h6, ha⟩ := pzOk_parts h
  simp only [pzOk, Bool.and_eq_true, within_iff, decide_eq_true_eq]
  exact ⟨⟨h1, h4⟩, by rw [woC_len hk]; omega, all_wo ha k⟩
theorem own_shapeC {w : World} {base size : Nat} {e : TypeId} {v : Value} {n : Nat} {xs : List Value} (h : w.ownsRow base e size v n xs) : ∃ (A : Option Addr) (c : Nat), v = .slice A n c := by
  obtain ⟨-, ⟨rfl, rfl⟩ | ⟨g, cap, cur, rfl, -⟩⟩ := h
  · exact ⟨_, _, rfl⟩
  · exact ⟨_, _, rfl⟩
/-- A list of clues of the call's own. -/
def CluesPost (l : List Cl) (w : World) (e : Ending) (w' : World) : Prop :=
  ∃ (A : Option Addr) (q : Nat), e = .returned (.slice A l.length q) ∧ w'.ownsRow w.heap.size 87 3 (.slice A l.length q) l.length (clsC l) ∧ Below w.heap.size w w'
theorem cls_parts {w : World} {b o n c k : Nat} {cs : List Cl} (h : Holds w (some ⟨b, o, none⟩) (clsC cs)) (hx : cs.length = n) (hk : k < n) (hc : n ≤ c) :
    Hid (∀ j u, (clsC (cs.take k))[j]? = some u → w.cell? ⟨b, o + j, none⟩ = some u) ∧ ∃ d, (if c = k + 1 then (some ⟨b, o, none⟩ : Option Addr) else some ⟨b, o + (k + 1) * 3, none⟩) = some ⟨b, d, none⟩ ∧ Hid (∀ j u, (clsC (cs.drop (k + 1)))[j]? = some u → w.cell? ⟨b, d + j, none⟩ = some u) := by
  rcases h with h | ⟨b', o', hA, hb, hcell⟩
  · have := clsC_len cs
    rw [h] at this
    simp at this
    omega
  · cases hA
    have hs : clsC cs = clsC (cs.take (k + 1)) ++ clsC (cs.drop (k + 1)) := by rw [← clsC_app, List.take_append_drop]
    have hs2 : clsC cs = clsC (cs.take k) ++ clsC (cs.drop k) := by rw [← clsC_app, List.take_append_drop]
    refine ⟨fun j u hu => hcell j u ?_, ?_⟩
    · rw [hs2, List.getElem?_append_left (List.getElem?_eq_some_iff.1 hu).1]
      exact hu
    · by_cases hck : c = k + 1
      · refine ⟨o, by simp [hck], fun j u hu => ?_⟩
        have h0 : cs.drop (k + 1) = [] := List.drop_eq_nil_of_le (by omega)
        rw [h0] at hu
        simp [clsC] at hu
      · refine ⟨o + (k + 1) * 3, by simp [hck], fun j u hu => ?_⟩
        have hl : (clsC (cs.take (k + 1))).length = (k + 1) * 3 := by rw [clsC_len, List.length_take]; congr 1; omega
        have := hcell ((k + 1) * 3 + j) u (by
          rw [hs, List.getElem?_append_right (by omega), hl, show (k + 1) * 3 + j - (k + 1) * 3 = j by omega]
          exact hu)
        rw [show o + (k + 1) * 3 + j = o + ((k + 1) * 3 + j) by omega]
        exact this

set_option maxHeartbeats 1600000 in
set_option maxRecDepth 100000 in
theorem pzWithout_any (b o n c k : Nat) (cs : List Cl) (w : World) (hA : Holds w (some ⟨b, o, none⟩) (clsC cs)) (hb : b < w.heap.size) (hx : cs.length = n) (hn : n ≤ 1048576) (hc : n ≤ c) (hcc : c ≤ 9223372036854775807) (hk : k < n) :
    Calls Try.prog 123 #[.slice (some ⟨b, o, none⟩) n c, .int .i64 (k : Int)] w (CluesPost (woC cs k) w) := by
  obtain ⟨i0, hi, hz0, hz1, hz2⟩ := info_parts info_clue
  have HI := Lib.hid hi
  have HZ0 := Lib.hid hz0
  have HZ1 := Lib.hid hz1
  have HZ2 := Lib.hid hz2
  obtain ⟨HHD, d, hd, HTL⟩ := cls_parts hA hx hk hc
  have hk0 : (0 : Int) ≤ k := by omega
  have hkc : (k : Int) ≤ c := by omega
  have hkc2 : k ≤ c := by omega
  have hp0 : (0 : Int) ≤ (k : Int) + 1 := by omega
  have hp1 : (k : Int) + 1 ≤ (n : Int) := by omega
  have hp2 : ((k : Int) + 1).toNat = k + 1 := by omega
  have hp3 : k + 1 ≤ n := by omega
  have HBB := Lib.hid hb
  have HLH : Hid ((clsC (cs.take k)).length = k * 3) := by show _ = _; rw [clsC_len, List.length_take]; congr 1; omega
  have HLT : Hid ((clsC (cs.drop (k + 1))).length = (n - (k + 1)) * 3) := by show _ = _; rw [clsC_len, List.length_drop, hx]
  have HWL : Hid ((woC cs k).length = k + (n - (k + 1))) := by show _ = _; rw [woC_len (by omega)]; omega
  have HM1 := Lib.hid (show 0 + k ≤ maxLen by unfold maxLen; omega)
  have HM2 := Lib.hid (show k + (n - (k + 1)) ≤ maxLen by unfold maxLen; omega)
  have HY1 := Lib.hid (show (0 + k) * 24 ≤ 140737488355328 by omega)
  have HY2 := Lib.hid (show (k + (n - (k + 1))) * 24 ≤ 140737488355328 by omega)
  have HB0 := Lib.hid ((below1 w (.cells #[] 87)))
  have HO0 : Hid ((w.alloc (.cells #[] 87)).ownsRow w.heap.size 87 3 (.slice (some ⟨w.heap.size, 0, none⟩) 0 0) 0 []) :=
    ⟨rfl, .inr ⟨w.heap.size, 0, #[], rfl, Nat.le_refl _, Whole.fresh w 87 #[], Nat.le_refl _, Nat.zero_le _, rfl, rfl⟩⟩
  have HON1 := Lib.hid (clsC_one (cs.take k))
  have HON2 := Lib.hid (clsC_one (cs.drop (k + 1)))
  have HN1 : Hid (∀ j u, (clsC (cs.take k))[j]? = some u → (w.alloc (.cells #[] 87)).cell? ((⟨b, o, none⟩ : Addr).add j) = some u) := fun j u hu => by rw [Addr.add_lit]; exact (HB0.out.cell (p := ⟨b, o + j, none⟩) HBB.out).trans (HHD.out j u hu)
  have hwr : IntKind.i64.wrap ((k : Int) + 1) = (k : Int) + 1 := IntWalk.i64_in _ (by omega)
  clear hi hz0 hz1 hz2 hA hx hb
  go_enter Try.func123, Try.ntmps123
  go_wp2_with fail
  go_region_law (first | (refine step_append_mine rfl (.tmp 5) (.tmp 8) 81 rfl w.heap.size 87 i0 (.agg #[.int .i64 0, .int .i64 0, .int .i64 0]) 3 24 Try.underlying81 HI.out HZ0.out HZ1.out HZ2.out rfl (by decide) (.slice (some ⟨w.heap.size, 0, none⟩) 0 0) 0 [] (by simp [Act.eval]) (by exact HO0.out) ⟨b, o, none⟩ k c (clsC (cs.take k)) (by simp [Act.eval]) HLH.out (by exact HN1.out) HON1.out HM1.out HY1.out (by simp) ?_; intro v1 w1 hown1 hg1; simp only [Nat.zero_add, List.nil_append] at hown1; obtain ⟨A1, q1, rfl⟩ := own_shapeC hown1; have hb1 := HB0.out.drew.grown hg1 (by simp) (fun kk e => by simp [Value.ownBlock] at e; omega); have HB1 := Lib.hid hb1; have HN2 : Hid (∀ j u, (clsC (cs.drop (k + 1)))[j]? = some u → w1.cell? ((⟨b, d, none⟩ : Addr).add j) = some u) := (fun j u hu => (by rw [Addr.add_lit]; exact (HB1.out.cell (p := ⟨b, d + j, none⟩) HBB.out).trans (HTL.out j u hu))); have HO1 := Lib.hid hown1; have HZ9 := Lib.hid hb1.size; clear hown1 hg1 hb1) | (refine step_append_mine rfl (.tmp 9) (.tmp 13) 81 rfl w.heap.size 87 i0 (.agg #[.int .i64 0, .int .i64 0, .int .i64 0]) 3 24 Try.underlying81 HI.out HZ0.out HZ1.out HZ2.out rfl (by decide) (.slice A1 k q1) k (clsC (cs.take k)) (by simp [Act.eval]) HO1.out ⟨b, d, none⟩ (n - (k + 1)) (c - (k + 1)) (clsC (cs.drop (k + 1))) (by simp [Act.eval, hd]) HLT.out HN2.out HON2.out HM2.out HY2.out HZ9.out ?_; intro v2 w2 hown2 hg2; obtain ⟨A2, q2, rfl⟩ := own_shapeC hown2))
  go_wp2
  go_ret
  exact ⟨A2, q2, by rw [HWL.out]; rfl, by rw [HWL.out, woC, clsC_app]; exact hown2, HB1.out.grown hg2 HZ9.out (fun kk e => (HO1.out.lt kk e).1)⟩
end Go.Proofs.Ytkocompjjogciaa

namespace Go.Proofs.Ytkocompjjogciaa
open Go.RowKit

set_option maxHeartbeats 1600000 in
set_option maxRecDepth 100000 in
theorem growNilK_any (n : Nat) (w : World) (h0 : 0 < n) (hn : n ≤ 1048576) :
    Calls Try.prog 180 #[.slice none 0 0, .int .i64 n] w (CluesPost [] w) := by
  obtain ⟨i0, hi, hz0, hz1, hz2⟩ := info_parts info_clue
  have hrun := fun W : World => Lib.run_append_nil_zeros (P := Try.prog) W 81 3 81 87 i0 (.agg #[.int .i64 0, .int .i64 0, .int .i64 0]) .i64 .i64 Try.underlying81 Try.underlying3 hi hz0 n h0 (by omega) (by omega) (by rw [hz2]; omega)
  have HR := Lib.hid hrun
  have hg0 : n ≤ grownCap w n 0 87 := grownCap_ge w n 0 _
  have hg1 : grownCap w n 0 87 ≤ maxLen := grownCap_le_maxLen w n 0 _ (by unfold maxLen; omega)
  have hg2 : (grownCap w n 0 87 : Int) ≤ 9223372036854775807 := by unfold maxLen at hg1; omega
  have hn0 : (0 : Int) < n := by omega
  have hn1 : ¬ (n : Int) < 0 := by omega
  have HG := Lib.hid hg1
  clear hi hz0 hz1 hz2 hrun hg1
  go_enter Try.func180, Try.ntmps180
  go_wp2_with (at_builtin; refine Lib.wpList_append_run _ rfl (.tmp 20) (.tmp 21) 81 3 rfl (.slice none 0 0) (.int .i64 n) rfl rfl _ _ (HR.out _) ?_)
  go_ret
  have hsz : (Builtin.zeroCells #[Value.int .i64 0, Value.int .i64 0, Value.int .i64 0] n ++ Builtin.zeroCells #[Value.int .i64 0, Value.int .i64 0, Value.int .i64 0] (grownCap w n 0 87 - n)).size = grownCap w n 0 87 * 3 := by
    rw [Array.size_append, size_zeroCells, size_zeroCells]
    simp
    omega
  exact ⟨_, _, rfl, (World.ownsRow_made (base := w.heap.size) (e := 87) (size := 3) w _ _ (Nat.le_refl _) HG.out hsz).drew, (below1 w _).drew⟩
theorem growNilK_zero (w : World) :
    Calls Try.prog 180 #[.slice none 0 0, .int .i64 ((0 : Nat) : Int)] w (CluesPost [] w) := by
  go_enter Try.func180, Try.ntmps180
  go_wp2
  go_ret
  exact ⟨none, 0, rfl, World.ownsRow_nil _ _ _ _, Below.refl _ _⟩

/-- A list of clues as it lies. -/
structure RowK where
  b : Nat
  o : Nat
  n : Nat
  c : Nat
  xs : List Cl
def RowK.val (r : RowK) : Value := .slice (some ⟨r.b, r.o, none⟩) r.n r.c
def partK (rs : List RowK) (k : Nat) : Nat := ((rs.take k).map RowK.n).sum
def joinK (rs : List RowK) (k : Nat) : List Cl := (rs.take k).flatMap RowK.xs
theorem partK_next {rs : List RowK} {k : Nat} (hk : k < rs.length) : partK rs (k + 1) = partK rs k + rs[k].n := by
  rw [partK, partK, List.take_succ_eq_append_getElem hk, List.map_append, List.sum_append]
  simp
theorem joinK_next {rs : List RowK} {k : Nat} (hk : k < rs.length) : joinK rs (k + 1) = joinK rs k ++ rs[k].xs := by
  rw [joinK, joinK, List.take_succ_eq_append_getElem hk, List.flatMap_append]
  simp
/-- The lists lie there, and so do their heads. -/
def GridK (w : World) (g : Nat) (rs : List RowK) : Prop :=
  g < w.heap.size ∧ (∀ k (h : k < rs.length), w.cell? ⟨g, k, none⟩ = some (rs[k]).val) ∧ ∀ k (h : k < rs.length), (rs[k]).b < w.heap.size ∧ (rs[k]).xs.length = (rs[k]).n ∧ ∀ j u, (clsC (rs[k]).xs)[j]? = some u → w.cell? ⟨(rs[k]).b, (rs[k]).o + j, none⟩ = some u
theorem GridK.below {w w' : World} {g : Nat} {rs : List RowK} (h : GridK w g rs) (hb : Below w.heap.size w w') : GridK w' g rs := by
  obtain ⟨h1, h2, h3⟩ := h
  refine ⟨Nat.lt_of_lt_of_le h1 hb.size, fun k hk => (hb.cell (p := ⟨g, k, none⟩) h1).trans (h2 k hk), fun k hk => ?_⟩
  obtain ⟨k1, k2, k3⟩ := h3 k hk
  exact ⟨Nat.lt_of_lt_of_le k1 hb.size, k2, fun j u hu => (hb.cell (p := ⟨(rs[k]).b, (rs[k]).o + j, none⟩) k1).trans (k3 j u hu)⟩
theorem joinK_len {w : World} {g : Nat} {rs : List RowK} (h : GridK w g rs) : ∀ {k : Nat}, k ≤ rs.length → (joinK rs k).length = partK rs k
  | 0, _ => by simp [joinK, partK]
  | k + 1, hk => by
    have hkr : k < rs.length := by omega
    rw [joinK_next hkr, List.length_append, joinK_len h (by omega), partK_next hkr, (h.2.2 k hkr).2.1]

set_option maxHeartbeats 3200000 in
set_option maxRecDepth 100000 in
theorem concatK_any (g n c : Nat) (rs : List RowK) (w : World) (hA : GridK w g rs) (hx : rs.length = n) (hn : n ≤ 1048576) (hp2 : ∀ k, k ≤ n → partK rs k ≤ 1048576) :
    Calls Try.prog 165 #[.slice (some ⟨g, 0, none⟩) n c] w (CluesPost (joinK rs n) w) := by
  have HX := Lib.hid hx
  have HP := Lib.hid hp2
  have HG := Lib.hid hA
  obtain ⟨i0, hi, hz0, hz1, hz2⟩ := info_parts info_clue
  have HI := Lib.hid hi
  have HZ0 := Lib.hid hz0
  have HZ1 := Lib.hid hz1
  have HZ2 := Lib.hid hz2
  clear hx hi hz0 hz1 hz2 hp2 hA
  go_enter Try.func165, Try.ntmps165
  go_wp2
  go_loop [3, 11] (fun v i => ∃ k : Nat, k ≤ n ∧ i = .int .i64 k ∧ v = .int .i64 (partK rs k)) (fun _ i => n - (intOf i).toNat)
  case atStart => exact ⟨0, Nat.zero_le _, rfl, rfl⟩
  case round =>
    obtain ⟨k, hk, rfl, rfl⟩ := hrel
    by_cases hlt : k < n
    · have hkr : k < rs.length := by have := HX.out; omega
      have hc := HG.out.2.1 k hkr
      rw [RowK.val] at hc
      have hgl := HG.out.1
      have hpn := partK_next hkr
      have hpl := HP.out (k + 1) (by omega)
      have hs0 : (0 : Int) ≤ (partK rs k : Int) + rs[k].n := by omega
      have hs1 : (partK rs k : Int) + rs[k].n ≤ 1048576 := by omega
      have hs2 : ¬ (partK rs k : Int) + rs[k].n < 0 := by omega
      have HPN := Lib.hid hpn
      clear hpn
      go_wp2
      go_round
      case rel => exact ⟨k + 1, by omega, by go_num, by rw [HPN.out]; first | exact congrArg _ (by omega) | (simp; omega)⟩
      case measure => simp [intOf]; omega
    · obtain rfl : k = n := by omega
      have HGROW : Hid (Calls Try.prog 180 #[.slice none 0 0, .int .i64 ((partK rs k : Nat) : Int)] w (CluesPost [] w)) := by
        show Calls _ _ _ _ _
        have h := HP.out k (Nat.le_refl _)
        generalize partK rs k = z at h
        cases z with
        | zero => exact growNilK_zero w
        | succ z => exact growNilK_any (z + 1) w (by omega) h
      go_wp2_with fail
      refine HGROW.out.mono ?_
      rintro e w1 ⟨A1, c1, rfl, hown1, hb1⟩
      have HO1 := Lib.hid hown1
      have HB1 := Lib.hid hb1
      have hwz := hb1.size
      clear hown1 hb1
      go_wp2
      go_loopw [6, 27] (fun v i wr => ∃ (j : Nat) (E : Option Addr) (d : Nat), j ≤ k ∧ i = .int .i64 j ∧ v = .slice E (partK rs j) d ∧ wr.ownsRow w.heap.size 87 3 (.slice E (partK rs j) d) (partK rs j) (clsC (joinK rs j)) ∧ Below w.heap.size w wr) (fun _ i _ => k - (intOf i).toNat)
      case atStart => exact ⟨0, A1, c1, Nat.zero_le _, rfl, rfl, HO1.out, HB1.out⟩
      case round =>
        obtain ⟨j, E, d, hj, rfl, rfl, hown, hb⟩ := hrel
        clear HO1 HB1
        by_cases hjk : j < k
        · have hjr : j < rs.length := by have := HX.out; omega
          have hGb := HG.out.below hb
          have hc := hGb.2.1 j hjr
          have hgl := hGb.1
          obtain ⟨ok0, ok2, ok3⟩ := hGb.2.2 j hjr
          have hpn := partK_next hjr
          have hjn := joinK_next hjr
          have hpl := HP.out (j + 1) (by omega)
          generalize rs[j] = r at hc ok0 ok2 ok3 hpn hjn
          obtain ⟨b1, o1, n1, d1, x1⟩ := r
          rw [RowK.val] at hc
          dsimp only at hc hpn hjn ok0 ok2 ok3
          have HPN := Lib.hid hpn
          have HJN := Lib.hid hjn
          have HOWN := Lib.hid hown
          have HB := Lib.hid hb
          have hbs := hb.size
          have hn1 : partK rs j + n1 ≤ 1048576 := by omega
          have HNEWS : Hid (∀ i u, (clsC x1)[i]? = some u → wr.cell? ((⟨b1, o1, none⟩ : Addr).add i) = some u) := fun i u hu => by rw [Addr.add_lit]; exact ok3 i u hu
          have HLEN : Hid ((clsC x1).length = n1 * 3) := by show _ = _; rw [clsC_len, ok2]
          have HONE := Lib.hid (clsC_one x1)
          clear ok0 ok2 ok3 hpn hjn hown hb hGb
          go_wp2_with (at_builtin; refine wpList_append_own _ rfl (.tmp 31) (.tmp 32) 81 rfl w.heap.size 87 i0 (.agg #[.int .i64 0, .int .i64 0, .int .i64 0]) 3 24 Try.underlying81 HI.out HZ0.out HZ1.out HZ2.out rfl (by decide) (.slice E (partK rs j) d) (partK rs j) _ rfl HOWN.out ⟨b1, o1, none⟩ n1 d1 (clsC x1) rfl HLEN.out HNEWS.out HONE.out (by unfold maxLen; omega) (by omega) hbs ?_; intro v' w2 hown2 hg2 _)
          obtain ⟨E2, d2, rfl⟩ := own_shapeC hown2
          have HO2 := Lib.hid hown2
          have HE := Lib.hid (HB.out.grown hg2 hbs (fun kk hkk => (HOWN.out.lt kk hkk).1))
          clear hown2 hg2
          go_roundw
          case rel => exact ⟨j + 1, E2, d2, by omega, by go_num, by rw [HPN.out], by rw [HPN.out, HJN.out, clsC_app]; exact HO2.out, HE.out⟩
          case measure => simp [intOf]; omega
        · obtain rfl : j = k := by omega
          go_wp2
          go_ret
          have hl := joinK_len HG.out (k := j) (by have := HX.out; omega)
          exact ⟨E, d, by rw [hl]; rfl, by rw [hl]; exact hown, hb⟩
end Go.Proofs.Ytkocompjjogciaa

namespace Go.Proofs.Ytkocompjjogciaa
open Go.RowKit

theorem own_freshK {w : World} {lo n c : Nat} {ty : TypeId} {A : Option Addr} {xs : List Value} (h : w.ownsRow lo ty 3 (.slice A n c) n xs) : Fresh w lo w.heap.size ty A xs := by
  obtain ⟨hl, ⟨-, h0⟩ | ⟨g, cap, cur, hv, hg, hh, hnc, -, hcs, ht⟩⟩ := h
  · left
    apply List.eq_nil_of_length_eq_zero
    omega
  · cases hv
    refine .inr ⟨g, cur, rfl, hg, (Array.getElem?_eq_some_iff.1 hh).1, hh, ?_, ?_⟩
    · omega
    · rw [hl]; exact ht
/-- What a call hands back that makes a puzzle and tells whether it did. -/
def PuzPost (p : Int) (l : List Cl) (ok : Bool) (w : World) (e : Ending) (w' : World) : Prop :=
  ∃ (A : Option Addr) (q : Nat), e = .returned (.tuple #[.agg #[.int .i64 p, .slice A l.length q], .bool ok]) ∧ Fresh w' w.heap.size w'.heap.size 87 A (clsC l) ∧ Below w.heap.size w w'
def drOk (p : Int) (cs : List Cl) (k : Int) : Bool := pzOk p cs && within k 0 ((cs.length : Int) - 1)
def drP (p : Int) (cs : List Cl) (k : Int) : Int := if drOk p cs k then p else 0
def drL (p : Int) (cs : List Cl) (k : Int) : List Cl := if drOk p cs k then woC cs k.toNat else []
theorem dr_no {p : Int} {cs : List Cl} {k : Int} (h : drOk p cs k = false) : drP p cs k = 0 ∧ drL p cs k = [] := by simp [drP, drL, h]
theorem dr_yes {p : Int} {cs : List Cl} {k : Int} (h : drOk p cs k = true) : drP p cs k = p ∧ drL p cs k = woC cs k.toNat := by simp [drP, drL, h]
theorem drOk_iff {p : Int} {cs : List Cl} {k : Int} : drOk p cs k = true ↔ pzOk p cs = true ∧ 0 ≤ k ∧ k < cs.length := by
  simp only [drOk, Bool.and_eq_true, within_iff]
  constructor
  · rintro ⟨h1, h2, h3⟩; exact ⟨h1, h2, by omega⟩
  · rintro ⟨h1, h2, h3⟩; exact ⟨h1, h2, by omega⟩

set_option maxHeartbeats 1600000 in
set_option maxRecDepth 100000 in
theorem implDropK_no (p : Int) (A : Option Addr) (n c : Nat) (cs : List Cl) (k : Int) (w : World) (hA : Holds w A (clsC cs)) (hx : cs.length = n) (hn : n ≤ 1048576) (hno : drOk p cs k = false) :
    Calls Try.prog 126 #[.agg #[.int .i64 p, .slice A n c], .int .i64 k] w (PuzPost (drP p cs k) (drL p cs k) (drOk p cs k) w) := by
  have HX := Lib.hid hx
  have HS := Lib.hid hno
  have hA2 := (hA.alloc (.cells #[.int .i64 p, .slice A n c] 83)).alloc (.cells #[.int .i64 0, .slice none 0 0] 83)
  have h0 := (Whole.fresh w 83 #[.int .i64 p, .slice A n c]).alloc (.cells #[.int .i64 0, .slice none 0 0] 83)
  have h1 := Whole.fresh (w.alloc (.cells #[.int .i64 p, .slice A n c] 83)) 83 #[.int .i64 0, .slice none 0 0]
  rw [World.size_alloc] at h1
  have HNO : Hid (pzOk p cs = true → k < 0 ∨ (n : Int) ≤ k) := by
    intro ha
    have h : ¬ (pzOk p cs = true ∧ 0 ≤ k ∧ k < cs.length) := fun h => by rw [drOk_iff.2 h] at hno; cases hno
    simp only [ha, true_and, hx] at h
    omega
  clear hx hno
  cases hp : pzOk p cs
  · have HP := Lib.hid hp
    clear hp
    go_enter Try.func126, Try.ntmps126
    go_wp2_with fail
    refine (isPuzzle_any p A n c cs _ hA2 HX.out hn).mono ?_
    rintro e w1 ⟨rfl, hb⟩
    rw [HP.out]
    have ht := below_then (below2 w _ _) hb (by simp; omega)
    have hr := h1.below hb
    have hlr := hr.lt
    obtain ⟨r0, r1, f0, f1⟩ := hr.two
    clear h0 h1 hb hA2
    go_wp2
    refine bodyPost_ret (v := .tuple #[.agg #[.int .i64 0, .slice none 0 0], .bool false]) (by simp [results, Try.results126, go_sem, r0, r1]) rfl ⟨none, 0, by rw [(dr_no HS.out).1, (dr_no HS.out).2, HS.out]; rfl, by rw [(dr_no HS.out).2]; exact .inl rfl, ?_⟩
    exact below_set (below_set ht (by omega)) (by omega)
  rcases (show k < 0 ∨ (¬ k < 0 ∧ (n : Int) ≤ k) by have := HNO.out hp; omega) with hk | ⟨hk, hkn⟩
  all_goals
    have HP := Lib.hid hp
    clear hp HNO
    go_enter Try.func126, Try.ntmps126
    go_wp2_with fail
    refine (isPuzzle_any p A n c cs _ hA2 HX.out hn).mono ?_
    rintro e w1 ⟨rfl, hb⟩
    rw [HP.out]
    have ht := below_then (below2 w _ _) hb (by simp; omega)
    have hp1 := h0.below hb
    obtain ⟨k0, k1, -, -⟩ := hp1.two
    have hr := h1.below hb
    have hlr := hr.lt
    obtain ⟨r0, r1, f0, f1⟩ := hr.two
    clear h0 h1 hb hA2
    go_wp2
    refine bodyPost_ret (v := .tuple #[.agg #[.int .i64 0, .slice none 0 0], .bool false]) (by simp [results, Try.results126, go_sem, r0, r1]) rfl ⟨none, 0, by rw [(dr_no HS.out).1, (dr_no HS.out).2, HS.out]; rfl, by rw [(dr_no HS.out).2]; exact .inl rfl, ?_⟩
    exact below_set (below_set ht (by omega)) (by omega)

/-- The same, to which more can be appended: the clues are the call's own. -/
def PuzOwn (p : Int) (l : List Cl) (ok : Bool) (w : World) (e : Ending) (w' : World) : Prop :=
  ∃ (A : Option Addr) (q : Nat), e = .returned (.tuple #[.agg #[.int .i64 p, .slice A l.length q], .bool ok]) ∧ w'.ownsRow w.heap.size 87 3 (.slice A l.length q) l.length (clsC l) ∧ Below w.heap.size w w'
theorem PuzOwn.post {p : Int} {l : List Cl} {ok : Bool} {w : World} {e : Ending} {w' : World} (h : PuzOwn p l ok w e w') : PuzPost p l ok w e w' := by
  obtain ⟨A, q, he, ho, hb⟩ := h
  exact ⟨A, q, he, own_freshK ho, hb⟩
theorem own_offK {w : World} {base size n b o : Nat} {e : TypeId} {v u : Value} {xs : List Value} (h : w.ownsRow base e size v n xs) (hne : ∀ g, v.ownBlock = some g → g ≠ b) : (w.setCell ⟨b, o, none⟩ u).ownsRow base e size v n xs := by
  obtain ⟨hl, h | ⟨g, cap, cur, hv, hg, hh, r⟩⟩ := h
  · exact ⟨hl, .inl h⟩
  · have hw : Whole w g e cur := hh
    exact ⟨hl, .inr ⟨g, cap, cur, hv, hg, hw.off (b := b) (o := o) (u := u) (hne g (by rw [hv]; rfl)), r⟩⟩
theorem own_lowerK {w : World} {base base' size : Nat} {e : TypeId} {v : Value} {n : Nat} {xs : List Value} (h : w.ownsRow base e size v n xs) (hb : base' ≤ base) : w.ownsRow base' e size v n xs := by
  obtain ⟨hl, h | ⟨g, cap, cur, hv, hg, r⟩⟩ := h
  · exact ⟨hl, .inl h⟩
  · exact ⟨hl, .inr ⟨g, cap, cur, hv, Nat.le_trans hb hg, r⟩⟩

set_option maxHeartbeats 3200000 in
set_option maxRecDepth 100000 in
theorem implDropK_own (p : Int) (b o n c k : Nat) (cs : List Cl) (w : World) (hA : Holds w (some ⟨b, o, none⟩) (clsC cs)) (hb0 : b < w.heap.size) (hx : cs.length = n) (hn : n ≤ 1048576) (hc : n ≤ c) (hcc : c ≤ 9223372036854775807) (hp : pzOk p cs = true) (hk : k < n) :
    Calls Try.prog 126 #[.agg #[.int .i64 p, .slice (some ⟨b, o, none⟩) n c], .int .i64 (k : Int)] w (PuzOwn p (woC cs k) true w) := by
  have HX := Lib.hid hx
  have HP := Lib.hid hp
  have HA := Lib.hid ((hA.alloc (.cells #[.int .i64 p, .slice (some ⟨b, o, none⟩) n c] 83)).alloc (.cells #[.int .i64 0, .slice none 0 0] 83))
  have h0 := (Whole.fresh w 83 #[.int .i64 p, .slice (some ⟨b, o, none⟩) n c]).alloc (.cells #[.int .i64 0, .slice none 0 0] 83)
  have h1 := Whole.fresh (w.alloc (.cells #[.int .i64 p, .slice (some ⟨b, o, none⟩) n c] 83)) 83 #[.int .i64 0, .slice none 0 0]
  rw [World.size_alloc] at h1
  have HB0 := Lib.hid hb0
  have hnk : ¬ ((n : Int) ≤ k) := by omega
  have hnk2 : ¬ (n ≤ k) := by omega
  have hk00 : ¬ ((k : Int) < 0) := by omega
  clear hx hp hA hb0
  go_enter Try.func126, Try.ntmps126
  go_wp2_with fail
  refine (isPuzzle_any p _ n c cs _ HA.out HX.out hn).mono ?_
  rintro e w1 ⟨rfl, hb⟩
  rw [HP.out]
  have ht := below_then (below2 w _ _) hb (by simp; omega)
  have hq := h0.below hb
  obtain ⟨k0, k1⟩ := hq.cells2
  have hlq := hq.lt
  have hr := h1.below hb
  have hlr := hr.lt
  obtain ⟨r0, r1, f0, f1⟩ := hr.two
  have hA1 := HA.out.below hb
  have hbl1 : b < w1.heap.size := by have := HB0.out; have := ht.size; omega
  clear h0 h1 hb
  obtain ⟨HHD, d, hd, HTL⟩ := cls_parts hA1 HX.out hk hc
  have HHQ := Lib.hid hq
  have HHR := Lib.hid hr
  have HT := Lib.hid ht
  clear hq hr ht hA1
  have hki0 : (0 : Int) ≤ k := by omega
  have hkc : (k : Int) ≤ c := by omega
  have hkc2 : k ≤ c := by omega
  have hp0 : (0 : Int) ≤ (k : Int) + 1 := by omega
  have hp1 : (k : Int) + 1 ≤ (n : Int) := by omega
  have hp2 : ((k : Int) + 1).toNat = k + 1 := by omega
  have hp3 : k + 1 ≤ n := by omega
  have hwr : IntKind.i64.wrap ((k : Int) + 1) = (k : Int) + 1 := IntWalk.i64_in _ (by omega)
  go_wp2_with fail
  have hlen0 : ([⟨b, o, k, c, cs.take k⟩, ⟨b, d, n - (k + 1), c - (k + 1), cs.drop (k + 1)⟩] : List RowK).length = 2 := rfl
  have HG : Hid (GridK (w1.drew.alloc (.cells #[.slice (some ⟨b, o, none⟩) k c, .slice (some ⟨b, d, none⟩) (n - (k + 1)) (c - (k + 1))] 81)) w1.heap.size [⟨b, o, k, c, cs.take k⟩, ⟨b, d, n - (k + 1), c - (k + 1), cs.drop (k + 1)⟩]) := by
    have hW := Whole.fresh w1.drew 81 #[.slice (some ⟨b, o, none⟩) k c, .slice (some ⟨b, d, none⟩) (n - (k + 1)) (c - (k + 1))]
    have hbw := below1 w1.drew (.cells #[.slice (some ⟨b, o, none⟩) k c, .slice (some ⟨b, d, none⟩) (n - (k + 1)) (c - (k + 1))] 81)
    obtain ⟨e0, e1⟩ := hW.cells2
    refine ⟨hW.lt, fun j hj => ?_, fun j hj => ?_⟩
    · rcases (show j = 0 ∨ j = 1 by simp at hj; omega) with rfl | rfl
      · exact e0
      · exact e1
    · rcases (show j = 0 ∨ j = 1 by simp at hj; omega) with rfl | rfl
      · refine ⟨by simp [RowK.b]; omega, by show (cs.take k).length = k; rw [List.length_take, HX.out]; omega, fun i u hu => ?_⟩
        exact (hbw.cell (p := ⟨b, o + i, none⟩) hbl1).trans (HHD.out i u hu)
      · refine ⟨by simp [RowK.b]; omega, by show (cs.drop (k + 1)).length = n - (k + 1); rw [List.length_drop, HX.out], fun i u hu => ?_⟩
        exact (hbw.cell (p := ⟨b, d + i, none⟩) hbl1).trans (HTL.out i u hu)
  have HPT : Hid (∀ j, j ≤ 2 → partK [⟨b, o, k, c, cs.take k⟩, ⟨b, d, n - (k + 1), c - (k + 1), cs.drop (k + 1)⟩] j ≤ 1048576) := fun j hj => by
    rcases (show j = 0 ∨ j = 1 ∨ j = 2 by omega) with rfl | rfl | rfl
    · simp [partK]
    · simp [partK]; omega
    · simp [partK]; omega
  have HJN : Hid (joinK [⟨b, o, k, c, cs.take k⟩, ⟨b, d, n - (k + 1), c - (k + 1), cs.drop (k + 1)⟩] 2 = woC cs k) := by show _ = _; simp [joinK, woC]
  clear hlen0
  go_region_held3 (fun w' => w'.cell? ⟨w.heap.size, 0, none⟩ = some (.int .i64 p) ∧ w'.cell? ⟨w.heap.size, 1, none⟩ = some (.slice (some ⟨b, o, none⟩) n c)) (go_keep)
    (first | (go_at_call 165; refine (concatK_any w1.heap.size 2 2 [⟨b, o, k, c, cs.take k⟩, ⟨b, d, n - (k + 1), c - (k + 1), cs.drop (k + 1)⟩] _ HG.out rfl (by omega) HPT.out).mono ?_; rintro e w2 ⟨A2, q2, rfl, hown2, hb2⟩; rw [HJN.out] at hown2 ⊢; have hc2 : Below w1.heap.size w1 w2 := below_then ((Below.refl w1.heap.size w1).drew.alloc (Nat.le_refl _) (.cells #[.slice (some ⟨b, o, none⟩) k c, .slice (some ⟨b, d, none⟩) (n - (k + 1)) (c - (k + 1))] 81)) hb2 (by simp); have hq2 := HHQ.out.below hc2; obtain ⟨k2, k3⟩ := hq2.cells2; have hlq2 := hq2.lt; have hr2 := HHR.out.below hc2; obtain ⟨r2, r3, f2, f3⟩ := hr2.two; have hlr2 := hr2.lt; have HO2 := Lib.hid hown2; have HC2 := Lib.hid hc2; have HZ2 := Lib.hid hb2.size; clear hown2 hb2 hq2 hr2))
  have hsz3 : w1.heap.size ≤ w2.heap.size := HC2.out.size
  have hbw : Below w.heap.size w w2 := below_then HT.out HC2.out HT.out.size
  have hlo := HO2.out.lt
  have HF := Lib.hid (own_offK (o := 1) (u := .slice A2 (woC cs k).length q2) (own_offK (o := 0) (u := .int .i64 p) (own_lowerK HO2.out (show w.heap.size ≤ _ by first | omega | (simp; omega))) (b := w.heap.size + 1) (fun g hg => by have := (hlo g hg).1; first | omega | (simp at this; omega))) (b := w.heap.size + 1) (fun g hg => by have := (hlo g hg).1; first | omega | (simp at this; omega)))
  clear hlo
  go_wp2
  refine bodyPost_ret (v := .tuple #[.agg #[.int .i64 p, .slice A2 (woC cs k).length q2], .bool true]) (by simp [results, Try.results126, go_sem, r2, r3]) rfl ⟨A2, q2, rfl, ?_, ?_⟩
  · have h := HF.out
    simpa [World.setCell] using h
  · exact below_set (below_set hbw (by omega)) (by omega)
theorem implDropK_on (p : Int) (b o n c k : Nat) (cs : List Cl) (w : World) (hA : Holds w (some ⟨b, o, none⟩) (clsC cs)) (hb0 : b < w.heap.size) (hx : cs.length = n) (hn : n ≤ 1048576) (hc : n ≤ c) (hcc : c ≤ 1048576) (hp : pzOk p cs = true) (hk : k < n) :
    Calls Try.prog 126 #[.agg #[.int .i64 p, .slice (some ⟨b, o, none⟩) n c], .int .i64 (k : Int)] w (PuzPost p (woC cs k) true w) :=
  (implDropK_own p b o n c k cs w hA hb0 hx hn hc (by omega) hp hk).mono fun _ _ h => h.post
theorem implDropK_any (p : Int) (b o n c : Nat) (cs : List Cl) (k : Int) (w : World) (hA : Holds w (some ⟨b, o, none⟩) (clsC cs)) (hb : b < w.heap.size) (hx : cs.length = n) (hn : n ≤ 1048576) (hc : n ≤ c) (hcc : c ≤ 1048576) :
    Calls Try.prog 126 #[.agg #[.int .i64 p, .slice (some ⟨b, o, none⟩) n c], .int .i64 k] w (PuzPost (drP p cs k) (drL p cs k) (drOk p cs k) w) := by
  cases hok : drOk p cs k
  · rw [← hok]
    exact implDropK_no p _ n c cs k w hA hx hn hok
  · obtain ⟨hp, h0, h1⟩ := drOk_iff.1 hok
    obtain ⟨e1, e2⟩ := dr_yes hok
    obtain ⟨j, rfl⟩ := Int.eq_ofNat_of_zero_le h0
    rw [e1, e2]
    exact implDropK_on p b o n c j cs w hA hb hx hn hc hcc hp (by omega)
end Go.Proofs.Ytkocompjjogciaa

namespace Go.Proofs.Ytkocompjjogciaa
open Go.RowKit

theorem drL_le {p : Int} {cs : List Cl} {k : Int} (h : cs.length ≤ 1048576) : (drL p cs k).length ≤ 1048576 := by
  cases hok : drOk p cs k
  · rw [(dr_no hok).2]; simp
  · rw [(dr_yes hok).2]
    simp only [woC, List.length_append, List.length_take, List.length_drop]
    omega
theorem drop_spot {w : World} {b o : Nat} {cs : List Cl} (h : Holds w (some ⟨b, o, none⟩) (clsC cs)) (h0 : 0 < cs.length) : b < w.heap.size := by
  rcases h with h | ⟨b', o', hA, hb, -⟩
  · have := clsC_len cs
    rw [h] at this
    simp at this
    omega
  · cases hA
    exact hb
theorem implDropK_at (p : Int) (b o n c : Nat) (cs : List Cl) (k : Int) (w : World) (hA : Holds w (some ⟨b, o, none⟩) (clsC cs)) (hx : cs.length = n) (hn : n ≤ 1048576) (hc : n ≤ c) (hcc : c ≤ 1048576) :
    Calls Try.prog 126 #[.agg #[.int .i64 p, .slice (some ⟨b, o, none⟩) n c], .int .i64 k] w (PuzPost (drP p cs k) (drL p cs k) (drOk p cs k) w) := by
  cases hok : drOk p cs k
  · rw [← hok]
    exact implDropK_no p _ n c cs k w hA hx hn hok
  · rw [← hok]
    obtain ⟨-, h0, h1⟩ := drOk_iff.1 hok
    exact implDropK_any p b o n c cs k w hA (drop_spot hA (by omega)) hx hn hc hcc
end Go.Proofs.Ytkocompjjogciaa

namespace Go.Proofs.Ytkocompjjogciaa
open Go.RowKit

/-- How many hidden times match the first clues, for the first numbers of clues. -/
def leftI (p : Int) (cs : List Cl) (k : Nat) : List Int := (List.range k).map fun j => ((solI p (cs.take j)).length : Int)
theorem leftI_len (p : Int) (cs : List Cl) (k : Nat) : (leftI p cs k).length = k := by simp [leftI]
theorem leftI_next (p : Int) (cs : List Cl) (k : Nat) : leftI p cs (k + 1) = leftI p cs k ++ [((solI p (cs.take k)).length : Int)] := by
  simp [leftI, List.range_succ]
def leftByI (p : Int) (cs : List Cl) : List Int := if pzOk p cs then leftI p cs (cs.length + 1) else []
theorem leftByI_no {p : Int} {cs : List Cl} (h : pzOk p cs = false) : leftByI p cs = [] := if_neg (by simp [h])
theorem leftByI_yes {p : Int} {cs : List Cl} (h : pzOk p cs = true) : leftByI p cs = leftI p cs (cs.length + 1) := if_pos h
theorem leftByI_le (p : Int) (cs : List Cl) : (leftByI p cs).length ≤ 1048576 := by
  cases h : pzOk p cs
  · rw [leftByI_no h]; simp
  · rw [leftByI_yes h, leftI_len]
    have := (pzOk_parts h).2.2.1
    omega
theorem all_take {p : Int} {cs : List Cl} (h : cs.all (clOk p) = true) (k : Nat) : (cs.take k).all (clOk p) = true :=
  List.all_eq_true.2 fun x hx => List.all_eq_true.1 h x (List.mem_of_mem_take hx)
theorem pzOk_of {p : Int} {cs : List Cl} (h1 : 1 ≤ p) (h4 : p ≤ 4) (h6 : cs.length ≤ 6) (h : cs.all (clOk p) = true) : pzOk p cs = true := by
  simp only [pzOk, Bool.and_eq_true, within_iff, decide_eq_true_eq]
  exact ⟨⟨h1, h4⟩, h6, h⟩
theorem pzOk_take {p : Int} {cs : List Cl} (h : pzOk p cs = true) (k : Nat) : pzOk p (cs.take k) = true := by
  obtain ⟨h1, h4, h6, ha⟩ := pzOk_parts h
  exact pzOk_of h1 h4 (by simp; omega) (all_take ha k)
/-- The first clues lie where the clues lie. -/
theorem cls_take {w : World} {b o k : Nat} {cs : List Cl} (h : Holds w (some ⟨b, o, none⟩) (clsC cs)) : Holds w (some ⟨b, o, none⟩) (clsC (cs.take k)) := by
  rcases h with h | ⟨b', o', hA, hb, hc⟩
  · left
    have h0 : cs = [] := by
      have := clsC_len cs
      rw [h] at this
      simp at this
      exact List.eq_nil_of_length_eq_zero (by omega)
    simp [h0, clsC]
  · cases hA
    refine .inr ⟨b, o, rfl, hb, fun j u hu => hc j u ?_⟩
    have hs : clsC cs = clsC (cs.take k) ++ clsC (cs.drop k) := by rw [← clsC_app, List.take_append_drop]
    rw [hs, List.getElem?_append_left]
    · exact hu
    · exact (List.getElem?_eq_some_iff.1 hu).1

theorem numsB_snoc (l : List Int) (x : Int) : nums (l ++ [x]) = nums l ++ [.int .i64 x] := by simp [nums]
theorem own_freshB {w : World} {lo n c : Nat} {ty : TypeId} {A : Option Addr} {xs : List Value} (h : w.ownsRow lo ty 1 (.slice A n c) n xs) : Fresh w lo w.heap.size ty A xs := by
  obtain ⟨A', c', hv, hf⟩ := Fresh.of_own h (Nat.le_refl _)
  cases hv
  exact hf
/-- A list of numbers of the call's own. -/
def IntsPost (l : List Int) (ok : Bool) (w : World) (e : Ending) (w' : World) : Prop :=
  ∃ (B : Option Addr) (q : Nat), e = .returned (.tuple #[.slice B l.length q, .bool ok]) ∧ Fresh w' w.heap.size w'.heap.size 3 B (nums l) ∧ Below w.heap.size w w'

set_option maxHeartbeats 800000 in
theorem part_first (p : Int) (b o n c k : Nat) (w : World) (hk : k ≤ n) (hc : n ≤ c) (hn : n ≤ 1048576) :
    Calls Try.prog 117 #[.agg #[.int .i64 p, .slice (some ⟨b, o, none⟩) n c], .int .i64 0, .int .i64 k] w fun e w' => e = .returned (.agg #[.int .i64 p, .slice (some ⟨b, o, none⟩) k k]) ∧ Below w.heap.size w w' := by
  have h0 := (Whole.fresh w 83 #[.int .i64 p, .slice (some ⟨b, o, none⟩) n c]).alloc (.cells #[.int .i64 0, .slice none 0 0] 83)
  have h1 := Whole.fresh (w.alloc (.cells #[.int .i64 p, .slice (some ⟨b, o, none⟩) n c] 83)) 83 #[.int .i64 0, .slice none 0 0]
  have HB := Lib.hid (below2 w (.cells #[.int .i64 p, .slice (some ⟨b, o, none⟩) n c] 83) (.cells #[.int .i64 0, .slice none 0 0] 83))
  have hk0 : (0 : Int) ≤ k := by omega
  have hkc : (k : Int) ≤ c := by omega
  have hkc2 : k ≤ c := by omega
  go_enter Try.func117, Try.ntmps117
  go_wp2
  obtain ⟨c0, c1⟩ := h0.cells2
  obtain ⟨r0, r1, f0, f1⟩ := h1.two
  rw [World.size_alloc] at r0 r1 f0 f1
  have hl0 := h0.lt
  have hP := Whole.fresh (w.alloc (.cells #[.int .i64 p, .slice (some ⟨b, o, none⟩) n c] 83)) 83 #[.int .i64 p, .slice (some ⟨b, o, none⟩) k k]
  have HB2 := Lib.hid ((below2 w (.cells #[.int .i64 p, .slice (some ⟨b, o, none⟩) n c] 83) (.cells #[.int .i64 p, .slice (some ⟨b, o, none⟩) k k] 83)).drew)
  rw [World.size_alloc] at hP
  have hP2 := hP.drew
  go_region_held3 (fun w' => w'.cell? ⟨w.heap.size, 0, none⟩ = some (.int .i64 p) ∧ w'.cell? ⟨w.heap.size, 1, none⟩ = some (.slice (some ⟨b, o, none⟩) n c)) (go_keep) (fail)
  obtain ⟨s0, s1, -, -⟩ := hP2.two
  clear h0 h1 c0 c1 r0 r1 f0 f1 hP hP2
  go_wp2
  refine bodyPost_ret (v := .agg #[.int .i64 p, .slice (some ⟨b, o, none⟩) k k]) (by simp [results, Try.results117, go_sem, s0, s1]) rfl ⟨rfl, HB2.out⟩

theorem count_take {p : Int} {cs : List Cl} (h : pzOk p cs = true) (k : Nat) : solsI p (cs.take k) = solI p (cs.take k) := solsI_yes (pzOk_take h k)

end Go.Proofs.Ytkocompjjogciaa

namespace Go.Proofs.Ytkocompjjogciaa
open Go.RowKit

theorem isPuzzle_wide (p : Int) (A : Option Addr) (n c : Nat) (cs : List Cl) (w : World) (hA : Holds w A (clsC cs)) (hx : cs.length = n) (hn : n ≤ 9223372036854775807) :
    Calls Try.prog 118 #[.agg #[.int .i64 p, .slice A n c]] w fun e w' => e = .returned (.bool (pzOk p cs)) ∧ Below w.heap.size w w' := by
  by_cases hl : cs.length ≤ 6
  · exact isPuzzle_any p A n c cs w hA hx (by omega)
  · subst hx
    have HBL := Lib.hid (below1 w (.cells #[.int .i64 p, .slice A cs.length c] 83))
    cases hpw : within p 1 4
    · have HP := Lib.hid (pzOk_people (cs := cs) hpw)
      have HW := Lib.hid hpw
      clear hpw
      go_enter Try.func118, Try.ntmps118
      go_wp2_with (go_at_call 160; refine (canHide_any _ _).mono ?_; rintro e w' ⟨rfl, rfl⟩; rw [HW.out])
      go_ret
      exact ⟨ret_of (by rw [HP.out]; rfl), HBL.out⟩
    · have HP := Lib.hid (pzOk_long (p := p) (cs := cs) (by omega))
      have HW := Lib.hid hpw
      have hl' : ¬ (cs.length : Int) ≤ 6 := by omega
      clear hpw
      go_enter Try.func118, Try.ntmps118
      go_wp2_with (go_at_call 160; refine (canHide_any _ _).mono ?_; rintro e w' ⟨rfl, rfl⟩; rw [HW.out])
      go_ret
      exact ⟨ret_of (by rw [HP.out]; rfl), HBL.out⟩
def adOk (p : Int) (cs : List Cl) (x : Cl) : Bool := pzOk p (cs ++ [x])
def adP (p : Int) (cs : List Cl) (x : Cl) : Int := if adOk p cs x then p else 0
def adL (p : Int) (cs : List Cl) (x : Cl) : List Cl := if adOk p cs x then cs ++ [x] else []
theorem ad_no {p : Int} {cs : List Cl} {x : Cl} (h : adOk p cs x = false) : adP p cs x = 0 ∧ adL p cs x = [] := by simp [adP, adL, h]
theorem ad_yes {p : Int} {cs : List Cl} {x : Cl} (h : adOk p cs x = true) : adP p cs x = p ∧ adL p cs x = cs ++ [x] := by simp [adP, adL, h]
theorem adOk_iff {p : Int} {cs : List Cl} {x : Cl} : adOk p cs x = true ↔ pzOk p cs = true ∧ clOk p x = true ∧ cs.length ≠ 6 := by
  simp only [adOk, pzOk, Bool.and_eq_true, within_iff, decide_eq_true_eq, List.length_append, List.length_singleton, List.all_append, List.all_cons, List.all_nil, Bool.and_true]
  constructor
  · rintro ⟨h1, h2, h3, h4⟩; exact ⟨⟨h1, by omega, h3⟩, h4, by omega⟩
  · rintro ⟨⟨h1, h2, h3⟩, h4, h5⟩; exact ⟨h1, by omega, h3, h4⟩
theorem adL_le {p : Int} {cs : List Cl} {x : Cl} : (adL p cs x).length ≤ 1048576 := by
  cases hok : adOk p cs x
  · rw [(ad_no hok).2]; simp
  · rw [(ad_yes hok).2]
    obtain ⟨h1, -, -⟩ := adOk_iff.1 hok
    have := (pzOk_parts h1).2.2.1
    simp
    omega

set_option maxHeartbeats 3200000 in
set_option maxRecDepth 100000 in
theorem implAddK_any (p : Int) (b o n c : Nat) (cs : List Cl) (x1 x2 x3 : Int) (w : World) (hA : Holds w (some ⟨b, o, none⟩) (clsC cs)) (hx : cs.length = n) (hn : n ≤ 1048576) (hc : n ≤ c) (hcc : c ≤ 1048576) :
    Calls Try.prog 58 #[.agg #[.int .i64 p, .slice (some ⟨b, o, none⟩) n c], .agg #[.int .i64 x1, .int .i64 x2, .int .i64 x3]] w (PuzPost (adP p cs (x1, x2, x3)) (adL p cs (x1, x2, x3)) (adOk p cs (x1, x2, x3)) w) := by
  obtain ⟨i0, hi, hz0, hz1, hz2⟩ := info_parts info_clue
  have HI := Lib.hid hi
  have HZ0 := Lib.hid hz0
  have HZ1 := Lib.hid hz1
  have HZ2 := Lib.hid hz2
  have HX := Lib.hid hx
  have HA := Lib.hid (((hA.alloc (.cells #[.int .i64 p, .slice (some ⟨b, o, none⟩) n c] 83)).alloc (.cells #[.int .i64 x1, .int .i64 x2, .int .i64 x3] 87)).alloc (.cells #[.int .i64 0, .slice none 0 0] 83))
  have h0 := ((Whole.fresh w 83 #[.int .i64 p, .slice (some ⟨b, o, none⟩) n c]).alloc (.cells #[.int .i64 x1, .int .i64 x2, .int .i64 x3] 87)).alloc (.cells #[.int .i64 0, .slice none 0 0] 83)
  have h9 := (Whole.fresh (w.alloc (.cells #[.int .i64 p, .slice (some ⟨b, o, none⟩) n c] 83)) 87 #[.int .i64 x1, .int .i64 x2, .int .i64 x3]).alloc (.cells #[.int .i64 0, .slice none 0 0] 83)
  have h1 := Whole.fresh ((w.alloc (.cells #[.int .i64 p, .slice (some ⟨b, o, none⟩) n c] 83)).alloc (.cells #[.int .i64 x1, .int .i64 x2, .int .i64 x3] 87)) 83 #[.int .i64 0, .slice none 0 0]
  simp only [World.size_alloc] at h9 h1
  have HT0 := Lib.hid (below3 w (.cells #[.int .i64 p, .slice (some ⟨b, o, none⟩) n c] 83) (.cells #[.int .i64 x1, .int .i64 x2, .int .i64 x3] 87) (.cells #[.int .i64 0, .slice none 0 0] 83))
  have H0 := Lib.hid h0
  have H9 := Lib.hid h9
  have H1 := Lib.hid h1
  obtain ⟨c0, c1⟩ := h0.cells2
  have hl0 := h0.lt
  clear hi hz0 hz1 hz2 hA hx h0 h9 h1
  go_enter Try.func58, Try.ntmps58
  go_wp2_with fail
  refine (part_first p b o n c n _ (Nat.le_refl _) hc hn).mono ?_
  rintro e w3 ⟨rfl, hb3⟩
  have HQ3 := Lib.hid (H0.out.below hb3)
  have h9 := H9.out.below hb3
  obtain ⟨d0, d1, d2⟩ := h9.cells3
  have hl9 := h9.lt
  have HR3 := Lib.hid (H1.out.below hb3)
  have HT3 := Lib.hid (below_then HT0.out hb3 HT0.out.size)
  have HA3 := Lib.hid (HA.out.below hb3)
  clear hb3 h9 c0 c1 hl0
  have hB4 := (Whole.fresh w3 83 #[.int .i64 p, .slice (some ⟨b, o, none⟩) n n]).alloc (.cells #[.int .i64 x1, .int .i64 x2, .int .i64 x3] 87)
  have hC4 := Whole.fresh (w3.alloc (.cells #[.int .i64 p, .slice (some ⟨b, o, none⟩) n n] 83)) 87 #[.int .i64 x1, .int .i64 x2, .int .i64 x3]
  rw [World.size_alloc] at hC4
  have hbl4 := below2 w3 (.cells #[.int .i64 p, .slice (some ⟨b, o, none⟩) n n] 83) (.cells #[.int .i64 x1, .int .i64 x2, .int .i64 x3] 87)
  have HNEW : Hid (∀ j u, ([.int .i64 x1, .int .i64 x2, .int .i64 x3] : List Value)[j]? = some u → ((w3.alloc (.cells #[.int .i64 p, .slice (some ⟨b, o, none⟩) n n] 83)).alloc (.cells #[.int .i64 x1, .int .i64 x2, .int .i64 x3] 87)).cell? ((⟨w3.heap.size + 1, 0, none⟩ : Addr).add j) = some u) := fun j u hu => by
    rw [Addr.add_lit, Nat.zero_add]
    exact (hC4.cell j).trans (by simpa using hu)
  have HOLD : Hid (∀ b' : Addr, (some ⟨b, o, none⟩ : Option Addr) = some b' → ∀ j u, (clsC cs)[j]? = some u → ((w3.alloc (.cells #[.int .i64 p, .slice (some ⟨b, o, none⟩) n n] 83)).alloc (.cells #[.int .i64 x1, .int .i64 x2, .int .i64 x3] 87)).cell? (b'.add j) = some u) := fun b' hb' j u hu => by
    obtain rfl : (⟨b, o, none⟩ : Addr) = b' := by simpa using hb'
    rw [Addr.add_lit]
    rcases HA3.out.below hbl4 with h | ⟨b9, o9, h9, -, hcell⟩
    · rw [h] at hu; simp at hu
    · cases h9; exact hcell j u hu
  have HLO : Hid ((clsC cs).length = n * 3) := by show _ = _; rw [clsC_len, HX.out]
  have HMAX := Lib.hid (show n + 1 ≤ maxLen by unfold maxLen; omega)
  have HBYT := Lib.hid (show (n + 1) * 24 ≤ 140737488355328 by omega)
  have HB4 := Lib.hid hB4
  have HBL4 := Lib.hid hbl4
  clear hB4 hC4 hbl4
  go_wp2_with (at_builtin; refine wpList_append_grows _ rfl (.tmp 13) (.tmp 15) 81 rfl 87 i0 (.agg #[.int .i64 0, .int .i64 0, .int .i64 0]) 3 24 Try.underlying81 HI.out HZ0.out HZ1.out HZ2.out rfl (by decide) (some ⟨b, o, none⟩) n n (clsC cs) rfl (fun h => by cases h) HLO.out HOLD.out ⟨w3.heap.size + 1, 0, none⟩ 1 1 [.int .i64 x1, .int .i64 x2, .int .i64 x3] rfl rfl HNEW.out (by simp [Value.oneCell']) (by omega) HMAX.out HBYT.out ?_; intro v' w5 hown5 hg5; obtain ⟨A5, q5, rfl⟩ := own_shapeC hown5; have hB5 : Whole w5 w3.heap.size 83 #[.int .i64 p, .slice (some ⟨b, o, none⟩) n n] := (hg5.block _ HB4.out.lt (fun e => by cases e)).trans HB4.out; obtain ⟨e0, e1, fz0, fz1⟩ := hB5.two; have hlB5 := hB5.lt)
  have hz45 := hg5.size
  simp only [World.size_alloc] at hown5 hz45
  have hnum : clsC cs ++ [.int .i64 x1, .int .i64 x2, .int .i64 x3] = clsC (cs ++ [(x1, x2, x3)]) := by rw [clsC_app]; rfl
  rw [hnum] at hown5
  have hf5 := own_freshK hown5
  have hb45 : Below w3.heap.size w3 w5 := HBL4.out.grown hg5 (by simp; omega) (fun kk e => by cases e)
  have hR5 := HR3.out.below hb45
  have hT5 := below_then HT3.out hb45 HT3.out.size
  have hzw3 : w.heap.size + 1 + 1 < w3.heap.size := HR3.out.lt
  have hB6 := hB5.set_ 1 (.slice A5 (n + 1) q5)
  have hR6 : Whole (w5.setCell ⟨w3.heap.size, 1, none⟩ (.slice A5 (n + 1) q5)) (w.heap.size + 1 + 1) 83 #[.int .i64 0, .slice none 0 0] := hR5.off (by omega)
  have hF6 := hf5.set_out (b := w3.heap.size) (o := 1) (u := .slice A5 (n + 1) q5) (.inl (by omega))
  have hT6 := below_set (b := w3.heap.size) (o := 1) (u := .slice A5 (n + 1) q5) hT5 (by omega)
  have hz6 : (w5.setCell ⟨w3.heap.size, 1, none⟩ (.slice A5 (n + 1) q5)).heap.size = w5.heap.size := by simp [World.setCell]
  clear hown5 hg5 hf5 hR5 hT5 hB5 e0 e1 fz0 fz1
  generalize w5.setCell ⟨w3.heap.size, 1, none⟩ (.slice A5 (n + 1) q5) = w6 at hB6 hR6 hF6 hT6 hz6 ⊢
  have HXL : Hid ((cs ++ [(x1, x2, x3)]).length = n + 1) := by show _ = _; rw [List.length_append, HX.out]; rfl
  refine (isPuzzle_wide p A5 (n + 1) q5 (cs ++ [(x1, x2, x3)]) _ hF6.holds HXL.out (by omega)).mono ?_
  rintro e w7 ⟨rfl, hb7⟩
  have hB7 : Whole w7 w3.heap.size 83 #[.int .i64 p, .slice A5 (n + 1) q5] := by
    have := hB6.below hb7
    simpa using this
  obtain ⟨e0, e1⟩ := hB7.cells2
  have hlB7 := hB7.lt
  have hR7 := hR6.below hb7
  obtain ⟨r0, r1, f0, f1⟩ := hR7.two
  have hlR7 := hR7.lt
  have HT7 := Lib.hid (below_then hT6 hb7 hT6.size)
  have HF7 := Lib.hid ((hF6.below hb7))
  have HZ7 := Lib.hid hb7.size
  clear hB6 hR6 hF6 hT6 hB7 hR7 hb7
  cases hok : adOk p cs (x1, x2, x3)
  · have HS := Lib.hid hok
    have hpz : pzOk p (cs ++ [(x1, x2, x3)]) = false := hok
    rw [hpz]
    clear hok hpz
    go_wp2
    refine bodyPost_ret (v := .tuple #[.agg #[.int .i64 0, .slice none 0 0], .bool false]) (by simp [results, Try.results58, go_sem, r0, r1]) rfl ⟨none, 0, by rw [(ad_no HS.out).1, (ad_no HS.out).2, HS.out]; rfl, by rw [(ad_no HS.out).2]; exact .inl rfl, ?_⟩
    exact below_set (below_set HT7.out (by omega)) (by omega)
  · have HS := Lib.hid hok
    have hpz : pzOk p (cs ++ [(x1, x2, x3)]) = true := hok
    rw [hpz]
    clear hok hpz
    have HFF := Lib.hid (((HF7.out.set_out (b := w.heap.size + 1 + 1) (o := 0) (u := .int .i64 p) (.inl (by omega))).set_out (b := w.heap.size + 1 + 1) (o := 1) (u := .slice A5 (n + 1) q5) (.inl (by omega))).more (lo' := w.heap.size) (hi' := w7.heap.size) (by omega) (by have := HZ7.out; omega))
    go_wp2
    refine bodyPost_ret (v := .tuple #[.agg #[.int .i64 p, .slice A5 (n + 1) q5], .bool true]) (by simp [results, Try.results58, go_sem, r0, r1]) rfl ⟨A5, q5, by rw [(ad_yes HS.out).1, (ad_yes HS.out).2, HXL.out, HS.out], ?_, ?_⟩
    · rw [(ad_yes HS.out).2]
      have h := HFF.out
      simpa [World.setCell] using h
    · exact below_set (below_set HT7.out (by omega)) (by omega)
end Go.Proofs.Ytkocompjjogciaa
