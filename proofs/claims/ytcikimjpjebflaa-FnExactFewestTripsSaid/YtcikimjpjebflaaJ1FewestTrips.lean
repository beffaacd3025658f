/-
  What is proved: the contract of slices.Repeat at the list that holds 1 alone. Conditions: one to four times.
  What is proved: the contract of slices.Repeat at the list that holds 1 alone. Conditions: five to eight times.
-/
import Derived.Laws.CopyOwn
import Derived.Laws.Bits64b
import Derived.Test.YtcikimjpjebflaaJ1CostOf
set_option linter.unusedSimpArgs false
set_option linter.unusedVariables false
namespace Go.Proofs.Ytcikimjpjebflaa
open Go.RowKit

set_option maxHeartbeats 1600000 in
theorem mul_one (p : Int) (h1 : 1 ≤ p) (h4 : p ≤ 4) (w : World) : Calls Try.prog 123 #[.int .u64 1, .int .u64 p] w fun e w' => e = .returned (.tuple #[.int .u64 0, .int .u64 p]) ∧ w = w' := by
  rcases (show p = 1 ∨ p = 2 ∨ p = 3 ∨ p = 4 by omega) with rfl | rfl | rfl | rfl
  all_goals
    go_enter Try.func123, Try.ntmps123
    go_wp2
    go_ret2
    exact ⟨by rfl, rfl⟩
theorem size_int : (Try.prog.info? 3).map (·.size) = some 1 := by kernel_rfl

theorem alloc_setRow (w : World) (cs ds : Array Value) (ty : TypeId) : (w.alloc (.cells cs ty)).setRow w.heap.size ds = w.alloc (.cells ds ty) := by
  have h : ((w.alloc (.cells cs ty)).setRow w.heap.size ds).heap = (w.alloc (.cells ds ty)).heap := by
    apply Array.ext_getElem?
    intro j
    by_cases hj : j = w.heap.size
    · subst hj
      exact (setRow_heap (w.alloc (.cells cs ty)) w.heap.size cs ds ty _ (Whole.fresh w ty cs)).trans (Whole.fresh w ty ds).symm
    · rw [setRow_other _ _ _ _ hj]
      by_cases hlt : j < w.heap.size
      · rw [Below.heap_alloc w _ j hlt, Below.heap_alloc w _ j hlt]
      · rw [Array.getElem?_eq_none (by simp; omega), Array.getElem?_eq_none (by simp; omega)]
  rw [show (w.alloc (.cells cs ty)).setRow w.heap.size ds = { (w.alloc (.cells cs ty)) with heap := ((w.alloc (.cells cs ty)).setRow w.heap.size ds).heap } from rfl, h]
  rfl

set_option maxHeartbeats 3200000 in
set_option maxRecDepth 100000 in
theorem repeat_1 (B : Nat) (w : World) (hB : Whole w B 3 #[.int .i64 1]) :
    Calls Try.prog 82 #[.slice (some ⟨B, 0, none⟩) 1 1, .int .i64 1] w fun e w' => e = .returned (.slice (some ⟨w.heap.size, 0, none⟩) 1 1) ∧ Whole w' w.heap.size 3 (nums (List.replicate 1 1)).toArray ∧ Below w.heap.size w w' := by
  obtain ⟨i0, hi, hz0, hz1, hz2⟩ := info_parts info_int
  have hmk : ∀ W : World, (Instr.makeSlice 22 (.int .i64 ((1 : Nat) : Int)) (.int .i64 ((1 : Nat) : Int))).run Try.prog W = .ok (.slice (some ⟨W.heap.size, 0, none⟩) 1 1) (W.alloc (.cells (nums (List.replicate 1 0)).toArray 3)) := by
    intro W
    have h := run_make (P := Try.prog) W 22 3 i0 _ Try.underlying22 hi hz0 .i64 .i64 (1 : Nat) (1 : Nat) (by omega) (by omega) (by rw [hz2]; omega) (by omega)
    simp only [Int.toNat_natCast, hz1, made_zeros] at h
    rw [h]
  have hmk1 : ∀ W : World, (Instr.makeSlice 22 (.int .i64 1) (.int .i64 1)).run Try.prog W = .ok (.slice (some ⟨W.heap.size, 0, none⟩) 1 1) (W.alloc (.cells (nums [0]).toArray 3)) := hmk
  clear hmk hi hz0 hz1 hz2
  have hBlt := hB.lt
  have hcp0 : (Builtin.copy_ #[22, 22] 3 #[.slice (some ⟨w.heap.size, 0, none⟩) 1 1, .slice (some ⟨B, 0, none⟩) 1 1]).run Try.prog (w.alloc (.cells (nums [0]).toArray 3)) = .ok (goInt 1) (w.alloc (.cells (nums [1]).toArray 3)) := by
    have h := run_copy_row (P := Try.prog) (w.alloc (.cells (nums [0]).toArray 3)) 22 22 3 3 w.heap.size 0 1 1 ⟨B, 0, none⟩ 1 1 (nums [0]).toArray 3 [.int .i64 1] Try.underlying22 size_int (Whole.fresh w 3 (nums [0]).toArray) (by rfl) (fun j v hv => (by
      have hj : j = 0 := by have := (List.getElem?_eq_some_iff.1 hv).1; simp at this; exact this
      subst hj
      simp only [List.getElem?_cons_zero, Option.some.injEq] at hv
      subst hv
      exact ((hB.alloc _).cell 0))) (by simp [nums]) (by simp [Value.oneCell'])
    rw [alloc_setRow] at h
    simpa [nums] using h
  go_enter Try.func82, Try.ntmps82
  go_wp2_with (go_at_call 123; refine (mul_one _ (by omega) (by omega) _).mono ?_; rintro e w' ⟨rfl, rfl⟩)
  refine wp_loop_rounds 1 ?_
  rw [rounds_succ]
  go_wp2
  go_ret
  exact ⟨rfl, Whole.fresh w 3 (nums [1]).toArray, (below1 w _)⟩

set_option maxHeartbeats 3200000 in
set_option maxRecDepth 100000 in
theorem repeat_2 (B : Nat) (w : World) (hB : Whole w B 3 #[.int .i64 1]) :
    Calls Try.prog 82 #[.slice (some ⟨B, 0, none⟩) 1 1, .int .i64 2] w fun e w' => e = .returned (.slice (some ⟨w.heap.size, 0, none⟩) 2 2) ∧ Whole w' w.heap.size 3 (nums (List.replicate 2 1)).toArray ∧ Below w.heap.size w w' := by
  obtain ⟨i0, hi, hz0, hz1, hz2⟩ := info_parts info_int
  have hmk : ∀ W : World, (Instr.makeSlice 22 (.int .i64 ((2 : Nat) : Int)) (.int .i64 ((2 : Nat) : Int))).run Try.prog W = .ok (.slice (some ⟨W.heap.size, 0, none⟩) 2 2) (W.alloc (.cells (nums (List.replicate 2 0)).toArray 3)) := by
    intro W
    have h := run_make (P := Try.prog) W 22 3 i0 _ Try.underlying22 hi hz0 .i64 .i64 (2 : Nat) (2 : Nat) (by omega) (by omega) (by rw [hz2]; omega) (by omega)
    simp only [Int.toNat_natCast, hz1, made_zeros] at h
    rw [h]
  have hmk1 : ∀ W : World, (Instr.makeSlice 22 (.int .i64 2) (.int .i64 2)).run Try.prog W = .ok (.slice (some ⟨W.heap.size, 0, none⟩) 2 2) (W.alloc (.cells (nums [0, 0]).toArray 3)) := hmk
  clear hmk hi hz0 hz1 hz2
  have hBlt := hB.lt
  have hcp0 : (Builtin.copy_ #[22, 22] 3 #[.slice (some ⟨w.heap.size, 0, none⟩) 2 2, .slice (some ⟨B, 0, none⟩) 1 1]).run Try.prog (w.alloc (.cells (nums [0, 0]).toArray 3)) = .ok (goInt 1) (w.alloc (.cells (nums [1, 0]).toArray 3)) := by
    have h := run_copy_row (P := Try.prog) (w.alloc (.cells (nums [0, 0]).toArray 3)) 22 22 3 3 w.heap.size 0 2 2 ⟨B, 0, none⟩ 1 1 (nums [0, 0]).toArray 3 [.int .i64 1] Try.underlying22 size_int (Whole.fresh w 3 (nums [0, 0]).toArray) (by rfl) (fun j v hv => (by
      have hj : j = 0 := by have := (List.getElem?_eq_some_iff.1 hv).1; simp at this; exact this
      subst hj
      simp only [List.getElem?_cons_zero, Option.some.injEq] at hv
      subst hv
      exact ((hB.alloc _).cell 0))) (by simp [nums]) (by simp [Value.oneCell'])
    rw [alloc_setRow] at h
    simpa [nums] using h
  have hcp1 : (Builtin.copy_ #[22, 22] 3 #[.slice (some ⟨w.heap.size, 1, none⟩) 1 1, .slice (some ⟨w.heap.size, 0, none⟩) 1 2]).run Try.prog (w.alloc (.cells (nums [1, 0]).toArray 3)).drew = .ok (goInt 1) (w.alloc (.cells (nums [1, 1]).toArray 3)).drew := by
    have h := run_copy_row (P := Try.prog) (w.alloc (.cells (nums [1, 0]).toArray 3)).drew 22 22 3 3 w.heap.size 1 1 1 ⟨w.heap.size, 0, none⟩ 1 2 (nums [1, 0]).toArray 3 [.int .i64 1] Try.underlying22 size_int (Whole.fresh w 3 (nums [1, 0]).toArray) (by rfl) (fun j v hv => (by
      have hw := (Whole.fresh w 3 (nums [1, 0]).toArray).cell j
      have hj : j < 1 := by have := (List.getElem?_eq_some_iff.1 hv).1; simpa using this
      rw [show (⟨w.heap.size, 0, none⟩ : Addr).add j = ⟨w.heap.size, j, none⟩ from by unfold Addr.add; split <;> simp_all]
      refine hw.trans ?_
      rcases (show j = 0 ∨ j = 1 by omega) with rfl | rfl <;> (simp [nums] at hv ⊢; try exact hv))) (by simp [nums]) (by simp [Value.oneCell'])
    have hs : ∀ ds, ((w.alloc (.cells (nums [1, 0]).toArray 3)).drew).setRow w.heap.size ds = (w.alloc (.cells ds 3)).drew := fun ds => by rw [← alloc_setRow w (nums [1, 0]).toArray ds 3]; rfl
    rw [hs] at h
    simpa [nums] using h
  go_enter Try.func82, Try.ntmps82
  go_wp2_with (go_at_call 123; refine (mul_one _ (by omega) (by omega) _).mono ?_; rintro e w' ⟨rfl, rfl⟩)
  refine wp_loop_rounds 2 ?_
  rw [rounds_succ]
  go_wp2
  go_region
  go_wp2
  rw [rounds_succ]
  go_wp2
  go_ret
  exact ⟨rfl, Whole.fresh w 3 (nums [1, 1]).toArray, (below1 w _).drew⟩

set_option maxHeartbeats 3200000 in
set_option maxRecDepth 100000 in
theorem repeat_3 (B : Nat) (w : World) (hB : Whole w B 3 #[.int .i64 1]) :
    Calls Try.prog 82 #[.slice (some ⟨B, 0, none⟩) 1 1, .int .i64 3] w fun e w' => e = .returned (.slice (some ⟨w.heap.size, 0, none⟩) 3 3) ∧ Whole w' w.heap.size 3 (nums (List.replicate 3 1)).toArray ∧ Below w.heap.size w w' := by
  obtain ⟨i0, hi, hz0, hz1, hz2⟩ := info_parts info_int
  have hmk : ∀ W : World, (Instr.makeSlice 22 (.int .i64 ((3 : Nat) : Int)) (.int .i64 ((3 : Nat) : Int))).run Try.prog W = .ok (.slice (some ⟨W.heap.size, 0, none⟩) 3 3) (W.alloc (.cells (nums (List.replicate 3 0)).toArray 3)) := by
    intro W
    have h := run_make (P := Try.prog) W 22 3 i0 _ Try.underlying22 hi hz0 .i64 .i64 (3 : Nat) (3 : Nat) (by omega) (by omega) (by rw [hz2]; omega) (by omega)
    simp only [Int.toNat_natCast, hz1, made_zeros] at h
    rw [h]
  have hmk1 : ∀ W : World, (Instr.makeSlice 22 (.int .i64 3) (.int .i64 3)).run Try.prog W = .ok (.slice (some ⟨W.heap.size, 0, none⟩) 3 3) (W.alloc (.cells (nums [0, 0, 0]).toArray 3)) := hmk
  clear hmk hi hz0 hz1 hz2
  have hBlt := hB.lt
  have hcp0 : (Builtin.copy_ #[22, 22] 3 #[.slice (some ⟨w.heap.size, 0, none⟩) 3 3, .slice (some ⟨B, 0, none⟩) 1 1]).run Try.prog (w.alloc (.cells (nums [0, 0, 0]).toArray 3)) = .ok (goInt 1) (w.alloc (.cells (nums [1, 0, 0]).toArray 3)) := by
    have h := run_copy_row (P := Try.prog) (w.alloc (.cells (nums [0, 0, 0]).toArray 3)) 22 22 3 3 w.heap.size 0 3 3 ⟨B, 0, none⟩ 1 1 (nums [0, 0, 0]).toArray 3 [.int .i64 1] Try.underlying22 size_int (Whole.fresh w 3 (nums [0, 0, 0]).toArray) (by rfl) (fun j v hv => (by
      have hj : j = 0 := by have := (List.getElem?_eq_some_iff.1 hv).1; simp at this; exact this
      subst hj
      simp only [List.getElem?_cons_zero, Option.some.injEq] at hv
      subst hv
      exact ((hB.alloc _).cell 0))) (by simp [nums]) (by simp [Value.oneCell'])
    rw [alloc_setRow] at h
    simpa [nums] using h
  have hcp1 : (Builtin.copy_ #[22, 22] 3 #[.slice (some ⟨w.heap.size, 1, none⟩) 2 2, .slice (some ⟨w.heap.size, 0, none⟩) 1 3]).run Try.prog (w.alloc (.cells (nums [1, 0, 0]).toArray 3)).drew = .ok (goInt 1) (w.alloc (.cells (nums [1, 1, 0]).toArray 3)).drew := by
    have h := run_copy_row (P := Try.prog) (w.alloc (.cells (nums [1, 0, 0]).toArray 3)).drew 22 22 3 3 w.heap.size 1 2 2 ⟨w.heap.size, 0, none⟩ 1 3 (nums [1, 0, 0]).toArray 3 [.int .i64 1] Try.underlying22 size_int (Whole.fresh w 3 (nums [1, 0, 0]).toArray) (by rfl) (fun j v hv => (by
      have hw := (Whole.fresh w 3 (nums [1, 0, 0]).toArray).cell j
      have hj : j < 1 := by have := (List.getElem?_eq_some_iff.1 hv).1; simpa using this
      rw [show (⟨w.heap.size, 0, none⟩ : Addr).add j = ⟨w.heap.size, j, none⟩ from by unfold Addr.add; split <;> simp_all]
      refine hw.trans ?_
      rcases (show j = 0 ∨ j = 1 by omega) with rfl | rfl <;> (simp [nums] at hv ⊢; try exact hv))) (by simp [nums]) (by simp [Value.oneCell'])
    have hs : ∀ ds, ((w.alloc (.cells (nums [1, 0, 0]).toArray 3)).drew).setRow w.heap.size ds = (w.alloc (.cells ds 3)).drew := fun ds => by rw [← alloc_setRow w (nums [1, 0, 0]).toArray ds 3]; rfl
    rw [hs] at h
    simpa [nums] using h
  have hcp2 : (Builtin.copy_ #[22, 22] 3 #[.slice (some ⟨w.heap.size, 2, none⟩) 1 1, .slice (some ⟨w.heap.size, 0, none⟩) 2 3]).run Try.prog (w.alloc (.cells (nums [1, 1, 0]).toArray 3)).drew.drew = .ok (goInt 1) (w.alloc (.cells (nums [1, 1, 1]).toArray 3)).drew.drew := by
    have h := run_copy_row (P := Try.prog) (w.alloc (.cells (nums [1, 1, 0]).toArray 3)).drew.drew 22 22 3 3 w.heap.size 2 1 1 ⟨w.heap.size, 0, none⟩ 2 3 (nums [1, 1, 0]).toArray 3 [.int .i64 1] Try.underlying22 size_int (Whole.fresh w 3 (nums [1, 1, 0]).toArray) (by rfl) (fun j v hv => (by
      have hw := (Whole.fresh w 3 (nums [1, 1, 0]).toArray).cell j
      have hj : j < 1 := by have := (List.getElem?_eq_some_iff.1 hv).1; simpa using this
      rw [show (⟨w.heap.size, 0, none⟩ : Addr).add j = ⟨w.heap.size, j, none⟩ from by unfold Addr.add; split <;> simp_all]
      refine hw.trans ?_
      rcases (show j = 0 ∨ j = 1 by omega) with rfl | rfl <;> (simp [nums] at hv ⊢; try exact hv))) (by simp [nums]) (by simp [Value.oneCell'])
    have hs : ∀ ds, ((w.alloc (.cells (nums [1, 1, 0]).toArray 3)).drew.drew).setRow w.heap.size ds = (w.alloc (.cells ds 3)).drew.drew := fun ds => by rw [← alloc_setRow w (nums [1, 1, 0]).toArray ds 3]; rfl
    rw [hs] at h
    simpa [nums] using h
  go_enter Try.func82, Try.ntmps82
  go_wp2_with (go_at_call 123; refine (mul_one _ (by omega) (by omega) _).mono ?_; rintro e w' ⟨rfl, rfl⟩)
  refine wp_loop_rounds 3 ?_
  rw [rounds_succ]
  go_wp2
  go_region
  go_wp2
  rw [rounds_succ]
  go_wp2
  go_region
  go_wp2
  rw [rounds_succ]
  go_wp2
  go_ret
  exact ⟨rfl, Whole.fresh w 3 (nums [1, 1, 1]).toArray, (below1 w _).drew.drew⟩

set_option maxHeartbeats 3200000 in
set_option maxRecDepth 100000 in
theorem repeat_4 (B : Nat) (w : World) (hB : Whole w B 3 #[.int .i64 1]) :
    Calls Try.prog 82 #[.slice (some ⟨B, 0, none⟩) 1 1, .int .i64 4] w fun e w' => e = .returned (.slice (some ⟨w.heap.size, 0, none⟩) 4 4) ∧ Whole w' w.heap.size 3 (nums (List.replicate 4 1)).toArray ∧ Below w.heap.size w w' := by
  obtain ⟨i0, hi, hz0, hz1, hz2⟩ := info_parts info_int
  have hmk : ∀ W : World, (Instr.makeSlice 22 (.int .i64 ((4 : Nat) : Int)) (.int .i64 ((4 : Nat) : Int))).run Try.prog W = .ok (.slice (some ⟨W.heap.size, 0, none⟩) 4 4) (W.alloc (.cells (nums (List.replicate 4 0)).toArray 3)) := by
    intro W
    have h := run_make (P := Try.prog) W 22 3 i0 _ Try.underlying22 hi hz0 .i64 .i64 (4 : Nat) (4 : Nat) (by omega) (by omega) (by rw [hz2]; omega) (by omega)
    simp only [Int.toNat_natCast, hz1, made_zeros] at h
    rw [h]
  have hmk1 : ∀ W : World, (Instr.makeSlice 22 (.int .i64 4) (.int .i64 4)).run Try.prog W = .ok (.slice (some ⟨W.heap.size, 0, none⟩) 4 4) (W.alloc (.cells (nums [0, 0, 0, 0]).toArray 3)) := hmk
  clear hmk hi hz0 hz1 hz2
  have hBlt := hB.lt
  have hcp0 : (Builtin.copy_ #[22, 22] 3 #[.slice (some ⟨w.heap.size, 0, none⟩) 4 4, .slice (some ⟨B, 0, none⟩) 1 1]).run Try.prog (w.alloc (.cells (nums [0, 0, 0, 0]).toArray 3)) = .ok (goInt 1) (w.alloc (.cells (nums [1, 0, 0, 0]).toArray 3)) := by
    have h := run_copy_row (P := Try.prog) (w.alloc (.cells (nums [0, 0, 0, 0]).toArray 3)) 22 22 3 3 w.heap.size 0 4 4 ⟨B, 0, none⟩ 1 1 (nums [0, 0, 0, 0]).toArray 3 [.int .i64 1] Try.underlying22 size_int (Whole.fresh w 3 (nums [0, 0, 0, 0]).toArray) (by rfl) (fun j v hv => (by
      have hj : j = 0 := by have := (List.getElem?_eq_some_iff.1 hv).1; simp at this; exact this
      subst hj
      simp only [List.getElem?_cons_zero, Option.some.injEq] at hv
      subst hv
      exact ((hB.alloc _).cell 0))) (by simp [nums]) (by simp [Value.oneCell'])
    rw [alloc_setRow] at h
    simpa [nums] using h
  have hcp1 : (Builtin.copy_ #[22, 22] 3 #[.slice (some ⟨w.heap.size, 1, none⟩) 3 3, .slice (some ⟨w.heap.size, 0, none⟩) 1 4]).run Try.prog (w.alloc (.cells (nums [1, 0, 0, 0]).toArray 3)).drew = .ok (goInt 1) (w.alloc (.cells (nums [1, 1, 0, 0]).toArray 3)).drew := by
    have h := run_copy_row (P := Try.prog) (w.alloc (.cells (nums [1, 0, 0, 0]).toArray 3)).drew 22 22 3 3 w.heap.size 1 3 3 ⟨w.heap.size, 0, none⟩ 1 4 (nums [1, 0, 0, 0]).toArray 3 [.int .i64 1] Try.underlying22 size_int (Whole.fresh w 3 (nums [1, 0, 0, 0]).toArray) (by rfl) (fun j v hv => (by
      have hw := (Whole.fresh w 3 (nums [1, 0, 0, 0]).toArray).cell j
      have hj : j < 1 := by have := (List.getElem?_eq_some_iff.1 hv).1; simpa using this
      rw [show (⟨w.heap.size, 0, none⟩ : Addr).add j = ⟨w.heap.size, j, none⟩ from by unfold Addr.add; split <;> simp_all]
      refine hw.trans ?_
      rcases (show j = 0 ∨ j = 1 by omega) with rfl | rfl <;> (simp [nums] at hv ⊢; try exact hv))) (by simp [nums]) (by simp [Value.oneCell'])
    have hs : ∀ ds, ((w.alloc (.cells (nums [1, 0, 0, 0]).toArray 3)).drew).setRow w.heap.size ds = (w.alloc (.cells ds 3)).drew := fun ds => by rw [← alloc_setRow w (nums [1, 0, 0, 0]).toArray ds 3]; rfl
    rw [hs] at h
    simpa [nums] using h
  have hcp2 : (Builtin.copy_ #[22, 22] 3 #[.slice (some ⟨w.heap.size, 2, none⟩) 2 2, .slice (some ⟨w.heap.size, 0, none⟩) 2 4]).run Try.prog (w.alloc (.cells (nums [1, 1, 0, 0]).toArray 3)).drew.drew = .ok (goInt 2) (w.alloc (.cells (nums [1, 1, 1, 1]).toArray 3)).drew.drew := by
    have h := run_copy_row (P := Try.prog) (w.alloc (.cells (nums [1, 1, 0, 0]).toArray 3)).drew.drew 22 22 3 3 w.heap.size 2 2 2 ⟨w.heap.size, 0, none⟩ 2 4 (nums [1, 1, 0, 0]).toArray 3 [.int .i64 1, .int .i64 1] Try.underlying22 size_int (Whole.fresh w 3 (nums [1, 1, 0, 0]).toArray) (by rfl) (fun j v hv => (by
      have hw := (Whole.fresh w 3 (nums [1, 1, 0, 0]).toArray).cell j
      have hj : j < 2 := by have := (List.getElem?_eq_some_iff.1 hv).1; simpa using this
      rw [show (⟨w.heap.size, 0, none⟩ : Addr).add j = ⟨w.heap.size, j, none⟩ from by unfold Addr.add; split <;> simp_all]
      refine hw.trans ?_
      rcases (show j = 0 ∨ j = 1 by omega) with rfl | rfl <;> (simp [nums] at hv ⊢; try exact hv))) (by simp [nums]) (by simp [Value.oneCell'])
    have hs : ∀ ds, ((w.alloc (.cells (nums [1, 1, 0, 0]).toArray 3)).drew.drew).setRow w.heap.size ds = (w.alloc (.cells ds 3)).drew.drew := fun ds => by rw [← alloc_setRow w (nums [1, 1, 0, 0]).toArray ds 3]; rfl
    rw [hs] at h
    simpa [nums] using h
  go_enter Try.func82, Try.ntmps82
  go_wp2_with (go_at_call 123; refine (mul_one _ (by omega) (by omega) _).mono ?_; rintro e w' ⟨rfl, rfl⟩)
  refine wp_loop_rounds 3 ?_
  rw [rounds_succ]
  go_wp2
  go_region
  go_wp2
  rw [rounds_succ]
  go_wp2
  go_region
  go_wp2
  rw [rounds_succ]
  go_wp2
  go_ret
  exact ⟨rfl, Whole.fresh w 3 (nums [1, 1, 1, 1]).toArray, (below1 w _).drew.drew⟩
end Go.Proofs.Ytcikimjpjebflaa

namespace Go.Proofs.Ytcikimjpjebflaa
open Go.RowKit

set_option maxHeartbeats 3200000 in
theorem mul_one8 (p : Int) (h1 : 5 ≤ p) (h4 : p ≤ 8) (w : World) : Calls Try.prog 123 #[.int .u64 1, .int .u64 p] w fun e w' => e = .returned (.tuple #[.int .u64 0, .int .u64 p]) ∧ w = w' := by
  rcases (show p = 5 ∨ p = 6 ∨ p = 7 ∨ p = 8 by omega) with rfl | rfl | rfl | rfl
  all_goals
    go_enter Try.func123, Try.ntmps123
    go_wp2
    go_ret2
    exact ⟨by rfl, rfl⟩

set_option maxHeartbeats 3200000 in
set_option maxRecDepth 100000 in
theorem repeat_5 (B : Nat) (w : World) (hB : Whole w B 3 #[.int .i64 1]) :
    Calls Try.prog 82 #[.slice (some ⟨B, 0, none⟩) 1 1, .int .i64 5] w fun e w' => e = .returned (.slice (some ⟨w.heap.size, 0, none⟩) 5 5) ∧ Whole w' w.heap.size 3 (nums (List.replicate 5 1)).toArray ∧ Below w.heap.size w w' := by
  obtain ⟨i0, hi, hz0, hz1, hz2⟩ := info_parts info_int
  have hmk : ∀ W : World, (Instr.makeSlice 22 (.int .i64 ((5 : Nat) : Int)) (.int .i64 ((5 : Nat) : Int))).run Try.prog W = .ok (.slice (some ⟨W.heap.size, 0, none⟩) 5 5) (W.alloc (.cells (nums (List.replicate 5 0)).toArray 3)) := by
    intro W
    have h := run_make (P := Try.prog) W 22 3 i0 _ Try.underlying22 hi hz0 .i64 .i64 (5 : Nat) (5 : Nat) (by omega) (by omega) (by rw [hz2]; omega) (by omega)
    simp only [Int.toNat_natCast, hz1, made_zeros] at h
    rw [h]
  have hmk1 : ∀ W : World, (Instr.makeSlice 22 (.int .i64 5) (.int .i64 5)).run Try.prog W = .ok (.slice (some ⟨W.heap.size, 0, none⟩) 5 5) (W.alloc (.cells (nums [0, 0, 0, 0, 0]).toArray 3)) := hmk
  clear hmk hi hz0 hz1 hz2
  have hBlt := hB.lt
  have hcp0 : (Builtin.copy_ #[22, 22] 3 #[.slice (some ⟨w.heap.size, 0, none⟩) 5 5, .slice (some ⟨B, 0, none⟩) 1 1]).run Try.prog (w.alloc (.cells (nums [0, 0, 0, 0, 0]).toArray 3)) = .ok (goInt 1) (w.alloc (.cells (nums [1, 0, 0, 0, 0]).toArray 3)) := by
    have h := run_copy_row (P := Try.prog) (w.alloc (.cells (nums [0, 0, 0, 0, 0]).toArray 3)) 22 22 3 3 w.heap.size 0 5 5 ⟨B, 0, none⟩ 1 1 (nums [0, 0, 0, 0, 0]).toArray 3 [.int .i64 1] Try.underlying22 size_int (Whole.fresh w 3 (nums [0, 0, 0, 0, 0]).toArray) (by rfl) (fun j v hv => (by
      have hj : j = 0 := by have := (List.getElem?_eq_some_iff.1 hv).1; simp at this; exact this
      subst hj
      simp only [List.getElem?_cons_zero, Option.some.injEq] at hv
      subst hv
      exact ((hB.alloc _).cell 0))) (by simp [nums]) (by simp [Value.oneCell'])
    rw [alloc_setRow] at h
    simpa [nums] using h
  have hcp1 : (Builtin.copy_ #[22, 22] 3 #[.slice (some ⟨w.heap.size, 1, none⟩) 4 4, .slice (some ⟨w.heap.size, 0, none⟩) 1 5]).run Try.prog (w.alloc (.cells (nums [1, 0, 0, 0, 0]).toArray 3)).drew = .ok (goInt 1) (w.alloc (.cells (nums [1, 1, 0, 0, 0]).toArray 3)).drew := by
    have h := run_copy_row (P := Try.prog) (w.alloc (.cells (nums [1, 0, 0, 0, 0]).toArray 3)).drew 22 22 3 3 w.heap.size 1 4 4 ⟨w.heap.size, 0, none⟩ 1 5 (nums [1, 0, 0, 0, 0]).toArray 3 [.int .i64 1] Try.underlying22 size_int (Whole.fresh w 3 (nums [1, 0, 0, 0, 0]).toArray) (by rfl) (fun j v hv => (by
      have hw := (Whole.fresh w 3 (nums [1, 0, 0, 0, 0]).toArray).cell j
      have hj : j < 1 := by have := (List.getElem?_eq_some_iff.1 hv).1; simpa using this
      rw [show (⟨w.heap.size, 0, none⟩ : Addr).add j = ⟨w.heap.size, j, none⟩ from by unfold Addr.add; split <;> simp_all]
      refine hw.trans ?_
      rcases (show j = 0 ∨ j = 1 ∨ j = 2 ∨ j = 3 by omega) with rfl | rfl | rfl | rfl <;> (simp [nums] at hv ⊢; try exact hv))) (by simp [nums]) (by simp [Value.oneCell'])
    have hs : ∀ ds, ((w.alloc (.cells (nums [1, 0, 0, 0, 0]).toArray 3)).drew).setRow w.heap.size ds = (w.alloc (.cells ds 3)).drew := fun ds => by rw [← alloc_setRow w (nums [1, 0, 0, 0, 0]).toArray ds 3]; rfl
    rw [hs] at h
    simpa [nums] using h
  have hcp2 : (Builtin.copy_ #[22, 22] 3 #[.slice (some ⟨w.heap.size, 2, none⟩) 3 3, .slice (some ⟨w.heap.size, 0, none⟩) 2 5]).run Try.prog (w.alloc (.cells (nums [1, 1, 0, 0, 0]).toArray 3)).drew.drew = .ok (goInt 2) (w.alloc (.cells (nums [1, 1, 1, 1, 0]).toArray 3)).drew.drew := by
    have h := run_copy_row (P := Try.prog) (w.alloc (.cells (nums [1, 1, 0, 0, 0]).toArray 3)).drew.drew 22 22 3 3 w.heap.size 2 3 3 ⟨w.heap.size, 0, none⟩ 2 5 (nums [1, 1, 0, 0, 0]).toArray 3 [.int .i64 1, .int .i64 1] Try.underlying22 size_int (Whole.fresh w 3 (nums [1, 1, 0, 0, 0]).toArray) (by rfl) (fun j v hv => (by
      have hw := (Whole.fresh w 3 (nums [1, 1, 0, 0, 0]).toArray).cell j
      have hj : j < 2 := by have := (List.getElem?_eq_some_iff.1 hv).1; simpa using this
      rw [show (⟨w.heap.size, 0, none⟩ : Addr).add j = ⟨w.heap.size, j, none⟩ from by unfold Addr.add; split <;> simp_all]
      refine hw.trans ?_
      rcases (show j = 0 ∨ j = 1 ∨ j = 2 ∨ j = 3 by omega) with rfl | rfl | rfl | rfl <;> (simp [nums] at hv ⊢; try exact hv))) (by simp [nums]) (by simp [Value.oneCell'])
    have hs : ∀ ds, ((w.alloc (.cells (nums [1, 1, 0, 0, 0]).toArray 3)).drew.drew).setRow w.heap.size ds = (w.alloc (.cells ds 3)).drew.drew := fun ds => by rw [← alloc_setRow w (nums [1, 1, 0, 0, 0]).toArray ds 3]; rfl
    rw [hs] at h
    simpa [nums] using h
  have hcp3 : (Builtin.copy_ #[22, 22] 3 #[.slice (some ⟨w.heap.size, 4, none⟩) 1 1, .slice (some ⟨w.heap.size, 0, none⟩) 4 5]).run Try.prog (w.alloc (.cells (nums [1, 1, 1, 1, 0]).toArray 3)).drew.drew.drew = .ok (goInt 1) (w.alloc (.cells (nums [1, 1, 1, 1, 1]).toArray 3)).drew.drew.drew := by
    have h := run_copy_row (P := Try.prog) (w.alloc (.cells (nums [1, 1, 1, 1, 0]).toArray 3)).drew.drew.drew 22 22 3 3 w.heap.size 4 1 1 ⟨w.heap.size, 0, none⟩ 4 5 (nums [1, 1, 1, 1, 0]).toArray 3 [.int .i64 1] Try.underlying22 size_int (Whole.fresh w 3 (nums [1, 1, 1, 1, 0]).toArray) (by rfl) (fun j v hv => (by
      have hw := (Whole.fresh w 3 (nums [1, 1, 1, 1, 0]).toArray).cell j
      have hj : j < 1 := by have := (List.getElem?_eq_some_iff.1 hv).1; simpa using this
      rw [show (⟨w.heap.size, 0, none⟩ : Addr).add j = ⟨w.heap.size, j, none⟩ from by unfold Addr.add; split <;> simp_all]
      refine hw.trans ?_
      rcases (show j = 0 ∨ j = 1 ∨ j = 2 ∨ j = 3 by omega) with rfl | rfl | rfl | rfl <;> (simp [nums] at hv ⊢; try exact hv))) (by simp [nums]) (by simp [Value.oneCell'])
    have hs : ∀ ds, ((w.alloc (.cells (nums [1, 1, 1, 1, 0]).toArray 3)).drew.drew.drew).setRow w.heap.size ds = (w.alloc (.cells ds 3)).drew.drew.drew := fun ds => by rw [← alloc_setRow w (nums [1, 1, 1, 1, 0]).toArray ds 3]; rfl
    rw [hs] at h
    simpa [nums] using h
  go_enter Try.func82, Try.ntmps82
  go_wp2_with (go_at_call 123; refine (mul_one8 _ (by omega) (by omega) _).mono ?_; rintro e w' ⟨rfl, rfl⟩)
  refine wp_loop_rounds 4 ?_
  rw [rounds_succ]
  go_wp2
  go_region
  go_wp2
  rw [rounds_succ]
  go_wp2
  go_region
  go_wp2
  rw [rounds_succ]
  go_wp2
  go_region
  go_wp2
  rw [rounds_succ]
  go_wp2
  go_ret
  exact ⟨rfl, Whole.fresh w 3 (nums [1, 1, 1, 1, 1]).toArray, (below1 w _).drew.drew.drew⟩

set_option maxHeartbeats 3200000 in
set_option maxRecDepth 100000 in
theorem repeat_6 (B : Nat) (w : World) (hB : Whole w B 3 #[.int .i64 1]) :
    Calls Try.prog 82 #[.slice (some ⟨B, 0, none⟩) 1 1, .int .i64 6] w fun e w' => e = .returned (.slice (some ⟨w.heap.size, 0, none⟩) 6 6) ∧ Whole w' w.heap.size 3 (nums (List.replicate 6 1)).toArray ∧ Below w.heap.size w w' := by
  obtain ⟨i0, hi, hz0, hz1, hz2⟩ := info_parts info_int
  have hmk : ∀ W : World, (Instr.makeSlice 22 (.int .i64 ((6 : Nat) : Int)) (.int .i64 ((6 : Nat) : Int))).run Try.prog W = .ok (.slice (some ⟨W.heap.size, 0, none⟩) 6 6) (W.alloc (.cells (nums (List.replicate 6 0)).toArray 3)) := by
    intro W
    have h := run_make (P := Try.prog) W 22 3 i0 _ Try.underlying22 hi hz0 .i64 .i64 (6 : Nat) (6 : Nat) (by omega) (by omega) (by rw [hz2]; omega) (by omega)
    simp only [Int.toNat_natCast, hz1, made_zeros] at h
    rw [h]
  have hmk1 : ∀ W : World, (Instr.makeSlice 22 (.int .i64 6) (.int .i64 6)).run Try.prog W = .ok (.slice (some ⟨W.heap.size, 0, none⟩) 6 6) (W.alloc (.cells (nums [0, 0, 0, 0, 0, 0]).toArray 3)) := hmk
  clear hmk hi hz0 hz1 hz2
  have hBlt := hB.lt
  have hcp0 : (Builtin.copy_ #[22, 22] 3 #[.slice (some ⟨w.heap.size, 0, none⟩) 6 6, .slice (some ⟨B, 0, none⟩) 1 1]).run Try.prog (w.alloc (.cells (nums [0, 0, 0, 0, 0, 0]).toArray 3)) = .ok (goInt 1) (w.alloc (.cells (nums [1, 0, 0, 0, 0, 0]).toArray 3)) := by
    have h := run_copy_row (P := Try.prog) (w.alloc (.cells (nums [0, 0, 0, 0, 0, 0]).toArray 3)) 22 22 3 3 w.heap.size 0 6 6 ⟨B, 0, none⟩ 1 1 (nums [0, 0, 0, 0, 0, 0]).toArray 3 [.int .i64 1] Try.underlying22 size_int (Whole.fresh w 3 (nums [0, 0, 0, 0, 0, 0]).toArray) (by rfl) (fun j v hv => (by
      have hj : j = 0 := by have := (List.getElem?_eq_some_iff.1 hv).1; simp at this; exact this
      subst hj
      simp only [List.getElem?_cons_zero, Option.some.injEq] at hv
      subst hv
      exact ((hB.alloc _).cell 0))) (by simp [nums]) (by simp [Value.oneCell'])
    rw [alloc_setRow] at h
    simpa [nums] using h
  have hcp1 : (Builtin.copy_ #[22, 22] 3 #[.slice (some ⟨w.heap.size, 1, none⟩) 5 5, .slice (some ⟨w.heap.size, 0, none⟩) 1 6]).run Try.prog (w.alloc (.cells (nums [1, 0, 0, 0, 0, 0]).toArray 3)).drew = .ok (goInt 1) (w.alloc (.cells (nums [1, 1, 0, 0, 0, 0]).toArray 3)).drew := by
    have h := run_copy_row (P := Try.prog) (w.alloc (.cells (nums [1, 0, 0, 0, 0, 0]).toArray 3)).drew 22 22 3 3 w.heap.size 1 5 5 ⟨w.heap.size, 0, none⟩ 1 6 (nums [1, 0, 0, 0, 0, 0]).toArray 3 [.int .i64 1] Try.underlying22 size_int (Whole.fresh w 3 (nums [1, 0, 0, 0, 0, 0]).toArray) (by rfl) (fun j v hv => (by
      have hw := (Whole.fresh w 3 (nums [1, 0, 0, 0, 0, 0]).toArray).cell j
      have hj : j < 1 := by have := (List.getElem?_eq_some_iff.1 hv).1; simpa using this
      rw [show (⟨w.heap.size, 0, none⟩ : Addr).add j = ⟨w.heap.size, j, none⟩ from by unfold Addr.add; split <;> simp_all]
      refine hw.trans ?_
      rcases (show j = 0 ∨ j = 1 ∨ j = 2 ∨ j = 3 by omega) with rfl | rfl | rfl | rfl <;> (simp [nums] at hv ⊢; try exact hv))) (by simp [nums]) (by simp [Value.oneCell'])
    have hs : ∀ ds, ((w.alloc (.cells (nums [1, 0, 0, 0, 0, 0]).toArray 3)).drew).setRow w.heap.size ds = (w.alloc (.cells ds 3)).drew := fun ds => by rw [← alloc_setRow w (nums [1, 0, 0, 0, 0, 0]).toArray ds 3]; rfl
    rw [hs] at h
    simpa [nums] using h
  have hcp2 : (Builtin.copy_ #[22, 22] 3 #[.slice (some ⟨w.heap.size, 2, none⟩) 4 4, .slice (some ⟨w.heap.size, 0, none⟩) 2 6]).run Try.prog (w.alloc (.cells (nums [1, 1, 0, 0, 0, 0]).toArray 3)).drew.drew = .ok (goInt 2) (w.alloc (.cells (nums [1, 1, 1, 1, 0, 0]).toArray 3)).drew.drew := by
    have h := run_copy_row (P := Try.prog) (w.alloc (.cells (nums [1, 1, 0, 0, 0, 0]).toArray 3)).drew.drew 22 22 3 3 w.heap.size 2 4 4 ⟨w.heap.size, 0, none⟩ 2 6 (nums [1, 1, 0, 0, 0, 0]).toArray 3 [.int .i64 1, .int .i64 1] Try.underlying22 size_int (Whole.fresh w 3 (nums [1, 1, 0, 0, 0, 0]).toArray) (by rfl) (fun j v hv => (by
      have hw := (Whole.fresh w 3 (nums [1, 1, 0, 0, 0, 0]).toArray).cell j
      have hj : j < 2 := by have := (List.getElem?_eq_some_iff.1 hv).1; simpa using this
      rw [show (⟨w.heap.size, 0, none⟩ : Addr).add j = ⟨w.heap.size, j, none⟩ from by unfold Addr.add; split <;> simp_all]
      refine hw.trans ?_
      rcases (show j = 0 ∨ j = 1 ∨ j = 2 ∨ j = 3 by omega) with rfl | rfl | rfl | rfl <;> (simp [nums] at hv ⊢; try exact hv))) (by simp [nums]) (by simp [Value.oneCell'])
    have hs : ∀ ds, ((w.alloc (.cells (nums [1, 1, 0, 0, 0, 0]).toArray 3)).drew.drew).setRow w.heap.size ds = (w.alloc (.cells ds 3)).drew.drew := fun ds => by rw [← alloc_setRow w (nums [1, 1, 0, 0, 0, 0]).toArray ds 3]; rfl
    rw [hs] at h
    simpa [nums] using h
  have hcp3 : (Builtin.copy_ #[22, 22] 3 #[.slice (some ⟨w.heap.size, 4, none⟩) 2 2, .slice (some ⟨w.heap.size, 0, none⟩) 4 6]).run Try.prog (w.alloc (.cells (nums [1, 1, 1, 1, 0, 0]).toArray 3)).drew.drew.drew = .ok (goInt 2) (w.alloc (.cells (nums [1, 1, 1, 1, 1, 1]).toArray 3)).drew.drew.drew := by
    have h := run_copy_row (P := Try.prog) (w.alloc (.cells (nums [1, 1, 1, 1, 0, 0]).toArray 3)).drew.drew.drew 22 22 3 3 w.heap.size 4 2 2 ⟨w.heap.size, 0, none⟩ 4 6 (nums [1, 1, 1, 1, 0, 0]).toArray 3 [.int .i64 1, .int .i64 1] Try.underlying22 size_int (Whole.fresh w 3 (nums [1, 1, 1, 1, 0, 0]).toArray) (by rfl) (fun j v hv => (by
      have hw := (Whole.fresh w 3 (nums [1, 1, 1, 1, 0, 0]).toArray).cell j
      have hj : j < 2 := by have := (List.getElem?_eq_some_iff.1 hv).1; simpa using this
      rw [show (⟨w.heap.size, 0, none⟩ : Addr).add j = ⟨w.heap.size, j, none⟩ from by unfold Addr.add; split <;> simp_all]
      refine hw.trans ?_
      rcases (show j = 0 ∨ j = 1 ∨ j = 2 ∨ j = 3 by omega) with rfl | rfl | rfl | rfl <;> (simp [nums] at hv ⊢; try exact hv))) (by simp [nums]) (by simp [Value.oneCell'])
    have hs : ∀ ds, ((w.alloc (.cells (nums [1, 1, 1, 1, 0, 0]).toArray 3)).drew.drew.drew).setRow w.heap.size ds = (w.alloc (.cells ds 3)).drew.drew.drew := fun ds => by rw [← alloc_setRow w (nums [1, 1, 1, 1, 0, 0]).toArray ds 3]; rfl
    rw [hs] at h
    simpa [nums] using h
  go_enter Try.func82, Try.ntmps82
  go_wp2_with (go_at_call 123; refine (mul_one8 _ (by omega) (by omega) _).mono ?_; rintro e w' ⟨rfl, rfl⟩)
  refine wp_loop_rounds 4 ?_
  rw [rounds_succ]
  go_wp2
  go_region
  go_wp2
  rw [rounds_succ]
  go_wp2
  go_region
  go_wp2
  rw [rounds_succ]
  go_wp2
  go_region
  go_wp2
  rw [rounds_succ]
  go_wp2
  go_ret
  exact ⟨rfl, Whole.fresh w 3 (nums [1, 1, 1, 1, 1, 1]).toArray, (below1 w _).drew.drew.drew⟩

set_option maxHeartbeats 3200000 in
set_option maxRecDepth 100000 in
theorem repeat_7 (B : Nat) (w : World) (hB : Whole w B 3 #[.int .i64 1]) :
    Calls Try.prog 82 #[.slice (some ⟨B, 0, none⟩) 1 1, .int .i64 7] w fun e w' => e = .returned (.slice (some ⟨w.heap.size, 0, none⟩) 7 7) ∧ Whole w' w.heap.size 3 (nums (List.replicate 7 1)).toArray ∧ Below w.heap.size w w' := by
  obtain ⟨i0, hi, hz0, hz1, hz2⟩ := info_parts info_int
  have hmk : ∀ W : World, (Instr.makeSlice 22 (.int .i64 ((7 : Nat) : Int)) (.int .i64 ((7 : Nat) : Int))).run Try.prog W = .ok (.slice (some ⟨W.heap.size, 0, none⟩) 7 7) (W.alloc (.cells (nums (List.replicate 7 0)).toArray 3)) := by
    intro W
    have h := run_make (P := Try.prog) W 22 3 i0 _ Try.underlying22 hi hz0 .i64 .i64 (7 : Nat) (7 : Nat) (by omega) (by omega) (by rw [hz2]; omega) (by omega)
    simp only [Int.toNat_natCast, hz1, made_zeros] at h
    rw [h]
  have hmk1 : ∀ W : World, (Instr.makeSlice 22 (.int .i64 7) (.int .i64 7)).run Try.prog W = .ok (.slice (some ⟨W.heap.size, 0, none⟩) 7 7) (W.alloc (.cells (nums [0, 0, 0, 0, 0, 0, 0]).toArray 3)) := hmk
  clear hmk hi hz0 hz1 hz2
  have hBlt := hB.lt
  have hcp0 : (Builtin.copy_ #[22, 22] 3 #[.slice (some ⟨w.heap.size, 0, none⟩) 7 7, .slice (some ⟨B, 0, none⟩) 1 1]).run Try.prog (w.alloc (.cells (nums [0, 0, 0, 0, 0, 0, 0]).toArray 3)) = .ok (goInt 1) (w.alloc (.cells (nums [1, 0, 0, 0, 0, 0, 0]).toArray 3)) := by
    have h := run_copy_row (P := Try.prog) (w.alloc (.cells (nums [0, 0, 0, 0, 0, 0, 0]).toArray 3)) 22 22 3 3 w.heap.size 0 7 7 ⟨B, 0, none⟩ 1 1 (nums [0, 0, 0, 0, 0, 0, 0]).toArray 3 [.int .i64 1] Try.underlying22 size_int (Whole.fresh w 3 (nums [0, 0, 0, 0, 0, 0, 0]).toArray) (by rfl) (fun j v hv => (by
      have hj : j = 0 := by have := (List.getElem?_eq_some_iff.1 hv).1; simp at this; exact this
      subst hj
      simp only [List.getElem?_cons_zero, Option.some.injEq] at hv
      subst hv
      exact ((hB.alloc _).cell 0))) (by simp [nums]) (by simp [Value.oneCell'])
    rw [alloc_setRow] at h
    simpa [nums] using h
  have hcp1 : (Builtin.copy_ #[22, 22] 3 #[.slice (some ⟨w.heap.size, 1, none⟩) 6 6, .slice (some ⟨w.heap.size, 0, none⟩) 1 7]).run Try.prog (w.alloc (.cells (nums [1, 0, 0, 0, 0, 0, 0]).toArray 3)).drew = .ok (goInt 1) (w.alloc (.cells (nums [1, 1, 0, 0, 0, 0, 0]).toArray 3)).drew := by
    have h := run_copy_row (P := Try.prog) (w.alloc (.cells (nums [1, 0, 0, 0, 0, 0, 0]).toArray 3)).drew 22 22 3 3 w.heap.size 1 6 6 ⟨w.heap.size, 0, none⟩ 1 7 (nums [1, 0, 0, 0, 0, 0, 0]).toArray 3 [.int .i64 1] Try.underlying22 size_int (Whole.fresh w 3 (nums [1, 0, 0, 0, 0, 0, 0]).toArray) (by rfl) (fun j v hv => (by
      have hw := (Whole.fresh w 3 (nums [1, 0, 0, 0, 0, 0, 0]).toArray).cell j
      have hj : j < 1 := by have := (List.getElem?_eq_some_iff.1 hv).1; simpa using this
      rw [show (⟨w.heap.size, 0, none⟩ : Addr).add j = ⟨w.heap.size, j, none⟩ from by unfold Addr.add; split <;> simp_all]
      refine hw.trans ?_
      rcases (show j = 0 ∨ j = 1 ∨ j = 2 ∨ j = 3 by omega) with rfl | rfl | rfl | rfl <;> (simp [nums] at hv ⊢; try exact hv))) (by simp [nums]) (by simp [Value.oneCell'])
    have hs : ∀ ds, ((w.alloc (.cells (nums [1, 0, 0, 0, 0, 0, 0]).toArray 3)).drew).setRow w.heap.size ds = (w.alloc (.cells ds 3)).drew := fun ds => by rw [← alloc_setRow w (nums [1, 0, 0, 0, 0, 0, 0]).toArray ds 3]; rfl
    rw [hs] at h
    simpa [nums] using h
  have hcp2 : (Builtin.copy_ #[22, 22] 3 #[.slice (some ⟨w.heap.size, 2, none⟩) 5 5, .slice (some ⟨w.heap.size, 0, none⟩) 2 7]).run Try.prog (w.alloc (.cells (nums [1, 1, 0, 0, 0, 0, 0]).toArray 3)).drew.drew = .ok (goInt 2) (w.alloc (.cells (nums [1, 1, 1, 1, 0, 0, 0]).toArray 3)).drew.drew := by
    have h := run_copy_row (P := Try.prog) (w.alloc (.cells (nums [1, 1, 0, 0, 0, 0, 0]).toArray 3)).drew.drew 22 22 3 3 w.heap.size 2 5 5 ⟨w.heap.size, 0, none⟩ 2 7 (nums [1, 1, 0, 0, 0, 0, 0]).toArray 3 [.int .i64 1, .int .i64 1] Try.underlying22 size_int (Whole.fresh w 3 (nums [1, 1, 0, 0, 0, 0, 0]).toArray) (by rfl) (fun j v hv => (by
      have hw := (Whole.fresh w 3 (nums [1, 1, 0, 0, 0, 0, 0]).toArray).cell j
      have hj : j < 2 := by have := (List.getElem?_eq_some_iff.1 hv).1; simpa using this
      rw [show (⟨w.heap.size, 0, none⟩ : Addr).add j = ⟨w.heap.size, j, none⟩ from by unfold Addr.add; split <;> simp_all]
      refine hw.trans ?_
      rcases (show j = 0 ∨ j = 1 ∨ j = 2 ∨ j = 3 by omega) with rfl | rfl | rfl | rfl <;> (simp [nums] at hv ⊢; try exact hv))) (by simp [nums]) (by simp [Value.oneCell'])
    have hs : ∀ ds, ((w.alloc (.cells (nums [1, 1, 0, 0, 0, 0, 0]).toArray 3)).drew.drew).setRow w.heap.size ds = (w.alloc (.cells ds 3)).drew.drew := fun ds => by rw [← alloc_setRow w (nums [1, 1, 0, 0, 0, 0, 0]).toArray ds 3]; rfl
    rw [hs] at h
    simpa [nums] using h
  have hcp3 : (Builtin.copy_ #[22, 22] 3 #[.slice (some ⟨w.heap.size, 4, none⟩) 3 3, .slice (some ⟨w.heap.size, 0, none⟩) 4 7]).run Try.prog (w.alloc (.cells (nums [1, 1, 1, 1, 0, 0, 0]).toArray 3)).drew.drew.drew = .ok (goInt 3) (w.alloc (.cells (nums [1, 1, 1, 1, 1, 1, 1]).toArray 3)).drew.drew.drew := by
    have h := run_copy_row (P := Try.prog) (w.alloc (.cells (nums [1, 1, 1, 1, 0, 0, 0]).toArray 3)).drew.drew.drew 22 22 3 3 w.heap.size 4 3 3 ⟨w.heap.size, 0, none⟩ 4 7 (nums [1, 1, 1, 1, 0, 0, 0]).toArray 3 [.int .i64 1, .int .i64 1, .int .i64 1] Try.underlying22 size_int (Whole.fresh w 3 (nums [1, 1, 1, 1, 0, 0, 0]).toArray) (by rfl) (fun j v hv => (by
      have hw := (Whole.fresh w 3 (nums [1, 1, 1, 1, 0, 0, 0]).toArray).cell j
      have hj : j < 3 := by have := (List.getElem?_eq_some_iff.1 hv).1; simpa using this
      rw [show (⟨w.heap.size, 0, none⟩ : Addr).add j = ⟨w.heap.size, j, none⟩ from by unfold Addr.add; split <;> simp_all]
      refine hw.trans ?_
      rcases (show j = 0 ∨ j = 1 ∨ j = 2 ∨ j = 3 by omega) with rfl | rfl | rfl | rfl <;> (simp [nums] at hv ⊢; try exact hv))) (by simp [nums]) (by simp [Value.oneCell'])
    have hs : ∀ ds, ((w.alloc (.cells (nums [1, 1, 1, 1, 0, 0, 0]).toArray 3)).drew.drew.drew).setRow w.heap.size ds = (w.alloc (.cells ds 3)).drew.drew.drew := fun ds => by rw [← alloc_setRow w (nums [1, 1, 1, 1, 0, 0, 0]).toArray ds 3]; rfl
    rw [hs] at h
    simpa [nums] using h
  go_enter Try.func82, Try.ntmps82
  go_wp2_with (go_at_call 123; refine (mul_one8 _ (by omega) (by omega) _).mono ?_; rintro e w' ⟨rfl, rfl⟩)
  refine wp_loop_rounds 4 ?_
  rw [rounds_succ]
  go_wp2
  go_region
  go_wp2
  rw [rounds_succ]
  go_wp2
  go_region
  go_wp2
  rw [rounds_succ]
  go_wp2
  go_region
  go_wp2
  rw [rounds_succ]
  go_wp2
  go_ret
  exact ⟨rfl, Whole.fresh w 3 (nums [1, 1, 1, 1, 1, 1, 1]).toArray, (below1 w _).drew.drew.drew⟩

set_option maxHeartbeats 3200000 in
set_option maxRecDepth 100000 in
theorem repeat_8 (B : Nat) (w : World) (hB : Whole w B 3 #[.int .i64 1]) :
    Calls Try.prog 82 #[.slice (some ⟨B, 0, none⟩) 1 1, .int .i64 8] w fun e w' => e = .returned (.slice (some ⟨w.heap.size, 0, none⟩) 8 8) ∧ Whole w' w.heap.size 3 (nums (List.replicate 8 1)).toArray ∧ Below w.heap.size w w' := by
  obtain ⟨i0, hi, hz0, hz1, hz2⟩ := info_parts info_int
  have hmk : ∀ W : World, (Instr.makeSlice 22 (.int .i64 ((8 : Nat) : Int)) (.int .i64 ((8 : Nat) : Int))).run Try.prog W = .ok (.slice (some ⟨W.heap.size, 0, none⟩) 8 8) (W.alloc (.cells (nums (List.replicate 8 0)).toArray 3)) := by
    intro W
    have h := run_make (P := Try.prog) W 22 3 i0 _ Try.underlying22 hi hz0 .i64 .i64 (8 : Nat) (8 : Nat) (by omega) (by omega) (by rw [hz2]; omega) (by omega)
    simp only [Int.toNat_natCast, hz1, made_zeros] at h
    rw [h]
  have hmk1 : ∀ W : World, (Instr.makeSlice 22 (.int .i64 8) (.int .i64 8)).run Try.prog W = .ok (.slice (some ⟨W.heap.size, 0, none⟩) 8 8) (W.alloc (.cells (nums [0, 0, 0, 0, 0, 0, 0, 0]).toArray 3)) := hmk
  clear hmk hi hz0 hz1 hz2
  have hBlt := hB.lt
  have hcp0 : (Builtin.copy_ #[22, 22] 3 #[.slice (some ⟨w.heap.size, 0, none⟩) 8 8, .slice (some ⟨B, 0, none⟩) 1 1]).run Try.prog (w.alloc (.cells (nums [0, 0, 0, 0, 0, 0, 0, 0]).toArray 3)) = .ok (goInt 1) (w.alloc (.cells (nums [1, 0, 0, 0, 0, 0, 0, 0]).toArray 3)) := by
    have h := run_copy_row (P := Try.prog) (w.alloc (.cells (nums [0, 0, 0, 0, 0, 0, 0, 0]).toArray 3)) 22 22 3 3 w.heap.size 0 8 8 ⟨B, 0, none⟩ 1 1 (nums [0, 0, 0, 0, 0, 0, 0, 0]).toArray 3 [.int .i64 1] Try.underlying22 size_int (Whole.fresh w 3 (nums [0, 0, 0, 0, 0, 0, 0, 0]).toArray) (by rfl) (fun j v hv => (by
      have hj : j = 0 := by have := (List.getElem?_eq_some_iff.1 hv).1; simp at this; exact this
      subst hj
      simp only [List.getElem?_cons_zero, Option.some.injEq] at hv
      subst hv
      exact ((hB.alloc _).cell 0))) (by simp [nums]) (by simp [Value.oneCell'])
    rw [alloc_setRow] at h
    simpa [nums] using h
  have hcp1 : (Builtin.copy_ #[22, 22] 3 #[.slice (some ⟨w.heap.size, 1, none⟩) 7 7, .slice (some ⟨w.heap.size, 0, none⟩) 1 8]).run Try.prog (w.alloc (.cells (nums [1, 0, 0, 0, 0, 0, 0, 0]).toArray 3)).drew = .ok (goInt 1) (w.alloc (.cells (nums [1, 1, 0, 0, 0, 0, 0, 0]).toArray 3)).drew := by
    have h := run_copy_row (P := Try.prog) (w.alloc (.cells (nums [1, 0, 0, 0, 0, 0, 0, 0]).toArray 3)).drew 22 22 3 3 w.heap.size 1 7 7 ⟨w.heap.size, 0, none⟩ 1 8 (nums [1, 0, 0, 0, 0, 0, 0, 0]).toArray 3 [.int .i64 1] Try.underlying22 size_int (Whole.fresh w 3 (nums [1, 0, 0, 0, 0, 0, 0, 0]).toArray) (by rfl) (fun j v hv => (by
      have hw := (Whole.fresh w 3 (nums [1, 0, 0, 0, 0, 0, 0, 0]).toArray).cell j
      have hj : j < 1 := by have := (List.getElem?_eq_some_iff.1 hv).1; simpa using this
      rw [show (⟨w.heap.size, 0, none⟩ : Addr).add j = ⟨w.heap.size, j, none⟩ from by unfold Addr.add; split <;> simp_all]
      refine hw.trans ?_
      rcases (show j = 0 ∨ j = 1 ∨ j = 2 ∨ j = 3 by omega) with rfl | rfl | rfl | rfl <;> (simp [nums] at hv ⊢; try exact hv))) (by simp [nums]) (by simp [Value.oneCell'])
    have hs : ∀ ds, ((w.alloc (.cells (nums [1, 0, 0, 0, 0, 0, 0, 0]).toArray 3)).drew).setRow w.heap.size ds = (w.alloc (.cells ds 3)).drew := fun ds => by rw [← alloc_setRow w (nums [1, 0, 0, 0, 0, 0, 0, 0]).toArray ds 3]; rfl
    rw [hs] at h
    simpa [nums] using h
  have hcp2 : (Builtin.copy_ #[22, 22] 3 #[.slice (some ⟨w.heap.size, 2, none⟩) 6 6, .slice (some ⟨w.heap.size, 0, none⟩) 2 8]).run Try.prog (w.alloc (.cells (nums [1, 1, 0, 0, 0, 0, 0, 0]).toArray 3)).drew.drew = .ok (goInt 2) (w.alloc (.cells (nums [1, 1, 1, 1, 0, 0, 0, 0]).toArray 3)).drew.drew := by
    have h := run_copy_row (P := Try.prog) (w.alloc (.cells (nums [1, 1, 0, 0, 0, 0, 0, 0]).toArray 3)).drew.drew 22 22 3 3 w.heap.size 2 6 6 ⟨w.heap.size, 0, none⟩ 2 8 (nums [1, 1, 0, 0, 0, 0, 0, 0]).toArray 3 [.int .i64 1, .int .i64 1] Try.underlying22 size_int (Whole.fresh w 3 (nums [1, 1, 0, 0, 0, 0, 0, 0]).toArray) (by rfl) (fun j v hv => (by
      have hw := (Whole.fresh w 3 (nums [1, 1, 0, 0, 0, 0, 0, 0]).toArray).cell j
      have hj : j < 2 := by have := (List.getElem?_eq_some_iff.1 hv).1; simpa using this
      rw [show (⟨w.heap.size, 0, none⟩ : Addr).add j = ⟨w.heap.size, j, none⟩ from by unfold Addr.add; split <;> simp_all]
      refine hw.trans ?_
      rcases (show j = 0 ∨ j = 1 ∨ j = 2 ∨ j = 3 by omega) with rfl | rfl | rfl | rfl <;> (simp [nums] at hv ⊢; try exact hv))) (by simp [nums]) (by simp [Value.oneCell'])
    have hs : ∀ ds, ((w.alloc (.cells (nums [1, 1, 0, 0, 0, 0, 0, 0]).toArray 3)).drew.drew).setRow w.heap.size ds = (w.alloc (.cells ds 3)).drew.drew := fun ds => by rw [← alloc_setRow w (nums [1, 1, 0, 0, 0, 0, 0, 0]).toArray ds 3]; rfl
    rw [hs] at h
    simpa [nums] using h
  have hcp3 : (Builtin.copy_ #[22, 22] 3 #[.slice (some ⟨w.heap.size, 4, none⟩) 4 4, .slice (some ⟨w.heap.size, 0, none⟩) 4 8]).run Try.prog (w.alloc (.cells (nums [1, 1, 1, 1, 0, 0, 0, 0]).toArray 3)).drew.drew.drew = .ok (goInt 4) (w.alloc (.cells (nums [1, 1, 1, 1, 1, 1, 1, 1]).toArray 3)).drew.drew.drew := by
    have h := run_copy_row (P := Try.prog) (w.alloc (.cells (nums [1, 1, 1, 1, 0, 0, 0, 0]).toArray 3)).drew.drew.drew 22 22 3 3 w.heap.size 4 4 4 ⟨w.heap.size, 0, none⟩ 4 8 (nums [1, 1, 1, 1, 0, 0, 0, 0]).toArray 3 [.int .i64 1, .int .i64 1, .int .i64 1, .int .i64 1] Try.underlying22 size_int (Whole.fresh w 3 (nums [1, 1, 1, 1, 0, 0, 0, 0]).toArray) (by rfl) (fun j v hv => (by
      have hw := (Whole.fresh w 3 (nums [1, 1, 1, 1, 0, 0, 0, 0]).toArray).cell j
      have hj : j < 4 := by have := (List.getElem?_eq_some_iff.1 hv).1; simpa using this
      rw [show (⟨w.heap.size, 0, none⟩ : Addr).add j = ⟨w.heap.size, j, none⟩ from by unfold Addr.add; split <;> simp_all]
      refine hw.trans ?_
      rcases (show j = 0 ∨ j = 1 ∨ j = 2 ∨ j = 3 by omega) with rfl | rfl | rfl | rfl <;> (simp [nums] at hv ⊢; try exact hv))) (by simp [nums]) (by simp [Value.oneCell'])
    have hs : ∀ ds, ((w.alloc (.cells (nums [1, 1, 1, 1, 0, 0, 0, 0]).toArray 3)).drew.drew.drew).setRow w.heap.size ds = (w.alloc (.cells ds 3)).drew.drew.drew := fun ds => by rw [← alloc_setRow w (nums [1, 1, 1, 1, 0, 0, 0, 0]).toArray ds 3]; rfl
    rw [hs] at h
    simpa [nums] using h
  go_enter Try.func82, Try.ntmps82
  go_wp2_with (go_at_call 123; refine (mul_one8 _ (by omega) (by omega) _).mono ?_; rintro e w' ⟨rfl, rfl⟩)
  refine wp_loop_rounds 4 ?_
  rw [rounds_succ]
  go_wp2
  go_region
  go_wp2
  rw [rounds_succ]
  go_wp2
  go_region
  go_wp2
  rw [rounds_succ]
  go_wp2
  go_region
  go_wp2
  rw [rounds_succ]
  go_wp2
  go_ret
  exact ⟨rfl, Whole.fresh w 3 (nums [1, 1, 1, 1, 1, 1, 1, 1]).toArray, (below1 w _).drew.drew.drew⟩
end Go.Proofs.Ytcikimjpjebflaa
