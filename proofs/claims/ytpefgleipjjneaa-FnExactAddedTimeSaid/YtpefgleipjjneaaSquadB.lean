/-
  What is proved: the contract of the program's sortBy at people with their times. Conditions: at most twelve people, read as they lie.
-/
import Derived.Test.YtpefgleipjjneaaSquadA
namespace Go.Proofs.Ytpefgleipjjneaa
open Go.RowKit Go.Sort

def encW (x : Wk) : List Value := [.int .i64 x.1, .int .i64 x.2]
def cmpW (x y : Wk) : Int := Go.Lib.compareInt x.2 y.2
theorem encW_len (x : Wk) : (encW x).length = 2 := rfl
theorem encW_one (x : Wk) : ∀ v ∈ encW x, v.oneCell' = true := fun v hv => by
  simp [encW] at hv
  rcases hv with rfl | rfl <;> rfl
theorem cmpLays (g B n : Nat) (w : World) (hg : g < w.heap.size) (hB : B < w.heap.size) (hne : B ≠ g) (hc : w.cell? ⟨B, 0, none⟩ = some paceV) :
    CmpLays Try.prog 39 #[.pointer (some ⟨B, 0, none⟩)] encW 2 cmpW g 0 n w := by
  intro m os dk _ x y
  have hs := size_sortWorldK_c encW 2 w g 0 m dk os
  have hcell : (sortWorldK encW 2 w g 0 m dk os).cell? ⟨B, 0, none⟩ = some paceV := by
    unfold sortWorldK
    rw [cell?_grow _ _ _ (by rw [size_putRowK]; exact hB), cell?_putRowK_other _ _ _ _ _ _ _ hne]
    exact hc
  exact closure_any x y B _ (Nat.lt_of_lt_of_le hB hs) hcell

set_option maxHeartbeats 1600000 in
set_option maxRecDepth 100000 in
theorem stable_any (d : Array Wk) (g B cap : Nat) (w : World) (hH : HoldsK encW 2 w g 0 d) (hg : g < w.heap.size) (hB : B < w.heap.size) (hne : B ≠ g) (hc : w.cell? ⟨B, 0, none⟩ = some paceV) (h12 : d.size ≤ 12) :
    Calls Try.prog 41 #[.slice (some ⟨g, 0, none⟩) d.size cap, .int .i64 d.size, .func (.func 39) #[] #[.pointer (some ⟨B, 0, none⟩)]] w fun e w' => e = .returned (.tuple #[]) ∧ ∃ m os, w' = sortWorldK encW 2 w g 0 m (insertionSort wlt d 0 d.size) os := by
  have eg : ∀ args W, (callFunc 39 args).run Try.prog W = .ok (.enter 39 args) W := enters_of Try.func39 (by kernel_rfl) rfl
  have hins := AnyQ.insertionSortCmpFunc Try.laysW 2 Try.isAgg52 Try.sizeOf52 encW encW_len encW_one cmpW 39 #[.pointer (some ⟨B, 0, none⟩)] g 0 cap 0 d.size d w eg (cmpLays g B d.size w hg hB hne hc) hH hg (Nat.zero_le _) (Nat.le_refl _) (by omega)
  change Calls Try.prog 43 _ _ _ at hins
  rw [show ltOf cmpW = wlt from compare_lt] at hins
  generalize insertionSort wlt d 0 d.size = r at hins ⊢
  have h20 : (d.size : Int) < 20 := by omega
  have HI := Lib.hid hins
  clear hins hH hc
  go_enter Try.func41, Try.ntmps41
  go_wp2
  refine wp_loop_rounds 1 ?_
  rw [rounds_succ]
  go_wp2_with (go_at_call 43; refine HI.out.mono ?_; rintro e w' ⟨rfl, m, os, rfl⟩)
  refine wp_loop_rounds 1 ?_
  rw [rounds_succ]
  go_wp2
  go_end0
  exact ⟨rfl, m, os, rfl⟩

set_option maxHeartbeats 1600000 in
theorem stableFunc_any (d : Array Wk) (g B cap : Nat) (w : World) (hH : HoldsK encW 2 w g 0 d) (hg : g < w.heap.size) (hB : B < w.heap.size) (hne : B ≠ g) (hc : w.cell? ⟨B, 0, none⟩ = some paceV) (h12 : d.size ≤ 12) :
    Calls Try.prog 38 #[.slice (some ⟨g, 0, none⟩) d.size cap, .func (.func 39) #[] #[.pointer (some ⟨B, 0, none⟩)]] w fun e w' => e = .returned (.tuple #[]) ∧ ∃ m os, w' = sortWorldK encW 2 w g 0 m (insertionSort wlt d 0 d.size) os := by
  have hins := stable_any d g B cap w hH hg hB hne hc h12
  generalize insertionSort wlt d 0 d.size = r at hins ⊢
  have HI := Lib.hid hins
  clear hins hH hc
  go_enter Try.func38, Try.ntmps38
  go_wp2_with (go_at_call 41; refine HI.out.mono ?_; rintro e w' ⟨rfl, m, os, rfl⟩)
  go_end0
  exact ⟨rfl, m, os, rfl⟩

set_option maxHeartbeats 1600000 in
theorem sortBy_any (d : Array Wk) (g cap : Nat) (w : World) (hH : HoldsK encW 2 w g 0 d) (hg : g < w.heap.size) (h12 : d.size ≤ 12) :
    Calls Try.prog 33 #[.slice (some ⟨g, 0, none⟩) d.size cap, paceV] w fun e w' => e = .returned (.tuple #[]) ∧ ∃ m os, w' = sortWorldK encW 2 (w.alloc (.cells #[paceV] 64)) g 0 m (insertionSort wlt d 0 d.size) os := by
  have hH2 : HoldsK encW 2 (w.alloc (.cells #[paceV] 64)) g 0 d := by
    rw [alloc_eq_grow]
    exact holdsK_grow encW 2 w _ g 0 d hg hH
  have hins := stableFunc_any d g w.heap.size cap (w.alloc (.cells #[paceV] 64)) hH2 (by simp; omega) (by simp) (by omega) ((Whole.fresh w 64 #[paceV]).cell 0) h12
  generalize insertionSort wlt d 0 d.size = r at hins ⊢
  have HI := Lib.hid hins
  clear hins hH hH2
  go_enter Try.func33, Try.ntmps33
  go_wp2_with (go_at_call 38; refine HI.out.mono ?_; rintro e w' ⟨rfl, m, os, rfl⟩)
  go_end0
  exact ⟨rfl, m, os, rfl⟩
end Go.Proofs.Ytpefgleipjjneaa
