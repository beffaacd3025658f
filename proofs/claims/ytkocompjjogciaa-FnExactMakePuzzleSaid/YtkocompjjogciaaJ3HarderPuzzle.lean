/-
  What is proved: contracts of the program's sortBy at people with their times (slices.SortStableFunc at twelve at most), and plain facts on squads. Conditions: the people are read as they lie.
  What is proved: the contract of the program's sortBy at people with their times. Conditions: at most twelve people, read as they lie.
  What is proved: the contract of the program's squadOf: the people with some times in their order. Conditions: the times are read as they lie.
  What is proved: the contract of the program's squadOf: the people with some times in their order. Conditions: the times are read as they lie.
  What is proved: contracts of RankOfPace, of the model and of the program. Conditions: the times are read as they lie.
  What is proved: the contract of the program's fetchGain. Conditions: two people at least, times from 0 to 1000.
  What is proved: the contract of the program's trips of a squad. Conditions: at most twelve people.
  What is proved: lists of lists of the call's own, and contracts of the laws' marks on them. Conditions: the rows are new, open to writes and apart from each other; counts are small.
  What is proved: a list of lists that the call makes row by row. Conditions: each new row is the call's own, in a range of blocks that no other one meets.
  What is proved: plain facts on lists of lists that a call hands back. Conditions: none.
  What is proved: plain facts on the rising lists that begin with some people and go on with others, and on lists of lists put one behind the other. Conditions: none.
  What is proved: the contract of the program's listsFrom: the rising lists that begin with some people and go on with others. Conditions: the lists are read as they lie; at most eight others, and at most eight to begin with.
  What is proved: contracts of the program's pairTrips, timeOfTrips, pairTrip.list and listsOfTrips. Conditions: the arguments are read as they lie; at most 24 trips.
  What is proved: plain facts on lists that are laid one behind the other, and on the list of them. Conditions: none.
  What is proved: plain facts on the signs of rounds and on lists of trips, and the contract of the model's prPair. Conditions: none.
-/
import Derived.Shelf.SlSortCmp.InsertionK
import Derived.Lib.Small
import Derived.Deep.RegionHeld3
import Derived.Deep.DeepCutAuto
import Derived.RegionTactic
import Derived.Deep.CutBlock
import Derived.WalkMore
import Derived.Deep.AppendLies
import Derived.Laws.Concat
import Derived.Test.YtkocompjjogciaaJ2HarderPuzzle
set_option linter.unusedSimpArgs false
set_option linter.unusedVariables false
namespace Go.Proofs.Ytkocompjjogciaa
open Go.RowKit

/-- A squad's cells. -/
def squadCells (W : List Wk) (n : Int) : Array Value := #[.int .i64 (wk W 0).1, .int .i64 (wk W 0).2, .int .i64 (wk W 1).1, .int .i64 (wk W 1).2, .int .i64 (wk W 2).1, .int .i64 (wk W 2).2, .int .i64 (wk W 3).1, .int .i64 (wk W 3).2, .int .i64 (wk W 4).1, .int .i64 (wk W 4).2, .int .i64 (wk W 5).1, .int .i64 (wk W 5).2, .int .i64 (wk W 6).1, .int .i64 (wk W 6).2, .int .i64 (wk W 7).1, .int .i64 (wk W 7).2, .int .i64 (wk W 8).1, .int .i64 (wk W 8).2, .int .i64 (wk W 9).1, .int .i64 (wk W 9).2, .int .i64 (wk W 10).1, .int .i64 (wk W 10).2, .int .i64 (wk W 11).1, .int .i64 (wk W 11).2, .int .i64 n]
theorem squad_size (W : List Wk) (n : Int) : (squadCells W n).size = 25 := rfl
theorem squad_one (W : List Wk) (n : Int) : (squadCells W n).all (·.oneCell') = true := by simp [squadCells, Value.oneCell']
theorem squad_who (W : List Wk) (n : Int) {k : Nat} (h : k < 12) : (squadCells W n)[2 * k]? = some (.int .i64 (wk W k).1) :=
  match k, h with
  | 0, _ => rfl
  | 1, _ => rfl
  | 2, _ => rfl
  | 3, _ => rfl
  | 4, _ => rfl
  | 5, _ => rfl
  | 6, _ => rfl
  | 7, _ => rfl
  | 8, _ => rfl
  | 9, _ => rfl
  | 10, _ => rfl
  | 11, _ => rfl
theorem squad_time (W : List Wk) (n : Int) {k : Nat} (h : k < 12) : (squadCells W n)[2 * k + 1]? = some (.int .i64 (wk W k).2) :=
  match k, h with
  | 0, _ => rfl
  | 1, _ => rfl
  | 2, _ => rfl
  | 3, _ => rfl
  | 4, _ => rfl
  | 5, _ => rfl
  | 6, _ => rfl
  | 7, _ => rfl
  | 8, _ => rfl
  | 9, _ => rfl
  | 10, _ => rfl
  | 11, _ => rfl
theorem squad_n (W : List Wk) (n : Int) : (squadCells W n)[24]? = some (.int .i64 n) := rfl
theorem size_squad : (Try.prog.info? 228).map (·.size) = some 25 := by kernel_rfl
/-- A person more. -/
theorem squad_next (W : List Wk) (n : Int) (x : Wk) (h : W.length < 12) : ((squadCells W n).setIfInBounds (2 * W.length) (.int .i64 x.1)).setIfInBounds (2 * W.length + 1) (.int .i64 x.2) = squadCells (W ++ [x]) n := by
  have hw : ∀ i, wk (W ++ [x]) i = if i = W.length then x else wk W i := fun i => by
    simp only [wk, List.getD_eq_getElem?_getD, List.getElem?_append]
    rcases Nat.lt_trichotomy i W.length with hi | hi | hi
    · rw [if_pos hi, if_neg (by omega)]
    · subst hi
      rw [if_neg (by omega), if_pos rfl]
      simp
    · rw [if_neg (by omega), if_neg (by omega), List.getElem?_eq_none (by simp; omega), List.getElem?_eq_none (by omega)]
  unfold squadCells
  simp only [hw]
  generalize W.length = k at h ⊢
  match k, h with
  | 0, _ => rfl
  | 1, _ => rfl
  | 2, _ => rfl
  | 3, _ => rfl
  | 4, _ => rfl
  | 5, _ => rfl
  | 6, _ => rfl
  | 7, _ => rfl
  | 8, _ => rfl
  | 9, _ => rfl
  | 10, _ => rfl
  | 11, _ => rfl

/-- Draws and blocks behind a world. -/
def Grown (W W' : World) : Prop := ∃ q os, W' = Go.Sort.grow (W.drewN q) os
theorem drewN_grow (W : World) (os : Array Obj) : ∀ q, (Go.Sort.grow W os).drewN q = Go.Sort.grow (W.drewN q) os
  | _ => rfl
theorem Grown.refl (W : World) : Grown W W := ⟨0, #[], by rw [Go.Sort.grow_empty]; rfl⟩
theorem Grown.alloc {W W' : World} (h : Grown W W') (o : Obj) : Grown W (W'.alloc o) := by
  obtain ⟨q, os, rfl⟩ := h
  exact ⟨q, os ++ #[o], by rw [Go.Sort.alloc_eq_grow, Go.Sort.grow_grow]⟩
theorem Grown.drewN {W W' : World} (h : Grown W W') (n : Nat) : Grown W (W'.drewN n) := by
  obtain ⟨q, os, rfl⟩ := h
  exact ⟨q + n, os, by rw [drewN_grow]; first | rfl | rw [World.drewN_drewN]⟩
theorem Grown.drew {W W' : World} (h : Grown W W') : Grown W W'.drew := h.drewN 1
theorem Grown.trans {W W' W'' : World} (h : Grown W W') (k : Grown W' W'') : Grown W W'' := by
  obtain ⟨q, os, rfl⟩ := h
  obtain ⟨r, ps, rfl⟩ := k
  exact ⟨q + r, os ++ ps, by rw [drewN_grow, Go.Sort.grow_grow]; first | rfl | rw [World.drewN_drewN]⟩
theorem Grown.below {W W' : World} (h : Grown W W') : Below W.heap.size W W' := by
  obtain ⟨q, os, rfl⟩ := h
  exact ⟨rfl, rfl, rfl, by simp [Go.Sort.grow], fun k hk => Go.Sort.heap_grow_old _ _ hk⟩

def Try.laysW_ren : Go.Shelf.Ren := ⟨fun | 20 => 220 | n => n, fun | 0 => 0 | 3 => 3 | 4 => 4 | 22 => 238 | 24 => 225 | 25 => 248 | n => n, fun | n => n⟩
theorem Try.laysW : Go.Proofs.SlLaysF0.n20 Try.prog Try.laysW_ren := {
  mixed := by kernel_rfl
  f20 := ⟨ "slices.insertionSortCmpFunc[loop.example/g01272/impl.walker]", by decide, Try.func220.trans (congrArg some (by kernel_rfl))⟩
  t0 := Try.underlying0
  a0 := Try.isAgg0
  z0 := Try.sizeOf0
  v0 := Try.zeroValue0
  t3 := Try.underlying3
  a3 := Try.isAgg3
  z3 := Try.sizeOf3
  v3 := Try.zeroValue3
  t4 := Try.underlying4
  a4 := Try.isAgg4
  z4 := Try.sizeOf4
  v4 := Try.zeroValue4
  t22 := Try.underlying238
  a22 := Try.isAgg238
  z22 := Try.sizeOf238
  v22 := Try.zeroValue238
  t25 := Try.underlying248
  a25 := Try.isAgg248
  z25 := Try.sizeOf248
  v25 := Try.zeroValue248
}

set_option maxHeartbeats 400000 in
theorem isNaN_any (x : Int) (w : World) : Calls Try.prog 187 #[.int .i64 x] w fun e w' => e = .returned (.bool false) ∧ w = w' := by
  go_enter Try.func187, Try.ntmps187
  go_wp2
  go_ret
  exact ⟨by simp, rfl⟩
set_option maxHeartbeats 800000 in
theorem compare_any (x y : Int) (w : World) : Calls Try.prog 172 #[.int .i64 x, .int .i64 y] w fun e w' => e = .returned (.int .i64 (Go.Lib.compareInt x y)) ∧ w = w' := by
  by_cases h : x < y
  · have HC : Hid (Go.Lib.compareInt x y = -1) := if_pos h
    go_enter Try.func172, Try.ntmps172
    go_wp2_with (go_at_call 187; refine (isNaN_any _ _).mono ?_; rintro e w' ⟨rfl, rfl⟩)
    go_ret
    exact ⟨ret_of (by rw [HC.out]; rfl), rfl⟩
  · by_cases h2 : y < x
    · have HC : Hid (Go.Lib.compareInt x y = 1) := by show _ = _; rw [Go.Lib.compareInt, if_neg h, if_pos h2]
      go_enter Try.func172, Try.ntmps172
      go_wp2_with (go_at_call 187; refine (isNaN_any _ _).mono ?_; rintro e w' ⟨rfl, rfl⟩)
      go_ret
      exact ⟨ret_of (by rw [HC.out]; rfl), rfl⟩
    · have HC : Hid (Go.Lib.compareInt x y = 0) := by show _ = _; rw [Go.Lib.compareInt, if_neg h, if_neg h2]
      go_enter Try.func172, Try.ntmps172
      go_wp2_with (go_at_call 187; refine (isNaN_any _ _).mono ?_; rintro e w' ⟨rfl, rfl⟩)
      go_ret
      exact ⟨ret_of (by rw [HC.out]; rfl), rfl⟩
theorem compare_lt : ltOf (fun a b : Wk => Go.Lib.compareInt a.2 b.2) = wlt := by
  funext x y
  show decide ((if x.2 < y.2 then (-1 : Int) else if x.2 > y.2 then 1 else 0) < 0) = decide (x.2 < y.2)
  by_cases h : x.2 < y.2
  · simp [h]
  · rw [if_neg h]
    split <;> simp [h]

set_option maxHeartbeats 800000 in
theorem pace_any (x : Wk) (w : World) : Calls Try.prog 208 #[.agg #[.int .i64 x.1, .int .i64 x.2]] w fun e w' => e = .returned (.int .i64 x.2) ∧ Grown w w' := by
  have HG := Lib.hid ((Grown.refl w).alloc (.cells #[.int .i64 x.1, .int .i64 x.2] 225))
  go_enter Try.func208, Try.ntmps208
  go_wp2
  go_ret
  exact ⟨rfl, HG.out⟩

/-- The key by which people are sorted, as a value. -/
def paceV : Value := .func (.func 208) #[] #[]
set_option maxHeartbeats 3200000 in
set_option maxRecDepth 100000 in
theorem closure_any (x y : Wk) (B : Nat) (w : World) (hl : B < w.heap.size) (hB : w.cell? ⟨B, 0, none⟩ = some paceV) :
    Calls Try.prog 215 #[.agg #[.int .i64 x.1, .int .i64 x.2], .agg #[.int .i64 y.1, .int .i64 y.2], .pointer (some ⟨B, 0, none⟩)] w fun e w' => e = .returned (.int .i64 (Go.Lib.compareInt x.2 y.2)) ∧ Grown w w' := by
  have hg := ((Grown.refl w).alloc (.cells #[.int .i64 x.1, .int .i64 x.2] 225)).alloc (.cells #[.int .i64 y.1, .int .i64 y.2] 225)
  have hx := (Whole.fresh w 225 #[.int .i64 x.1, .int .i64 x.2]).alloc (.cells #[.int .i64 y.1, .int .i64 y.2] 225)
  have hy := Whole.fresh (w.alloc (.cells #[.int .i64 x.1, .int .i64 x.2] 225)) 225 #[.int .i64 y.1, .int .i64 y.2]
  rw [World.size_alloc] at hy
  have hk : ((w.alloc (.cells #[.int .i64 x.1, .int .i64 x.2] 225)).alloc (.cells #[.int .i64 y.1, .int .i64 y.2] 225)).cell? ⟨B, 0, none⟩ = some paceV := (hg.below.cell (p := ⟨B, 0, none⟩) hl).trans hB
  obtain ⟨x0, x1, -, -⟩ := hx.two
  obtain ⟨y0, y1, -, -⟩ := hy.two
  have HG := Lib.hid hg
  have HX := Lib.hid hx
  have HY := Lib.hid hy
  clear hg hx hy hB
  unfold paceV at *
  go_enter Try.func215, Try.ntmps215
  go_upto_region 1 with fail
  go_region_held3 (fun w' => w'.cell? ⟨B, 0, none⟩ = some (.func (.func 208) #[] #[]) ∧ (w'.cell? ⟨w.heap.size, 0, none⟩ = some (.int .i64 x.1) ∧ w'.cell? ⟨w.heap.size, 1, none⟩ = some (.int .i64 x.2)) ∧ (w'.cell? ⟨w.heap.size + 1, 0, none⟩ = some (.int .i64 y.1) ∧ w'.cell? ⟨w.heap.size + 1, 1, none⟩ = some (.int .i64 y.2))) (go_keep)
    (first | (go_at_call 208; refine (pace_any x _).mono ?_; rintro e wx ⟨rfl, hgx⟩; have hbx := hgx.below; have hkx := (hbx.cell (p := ⟨B, 0, none⟩) (by simp; omega)).trans hk; have hxx := HX.out.drew.below hbx; have hyx := HY.out.drew.below hbx; obtain ⟨xx0, xx1, -, -⟩ := hxx.two; obtain ⟨yx0, yx1, -, -⟩ := hyx.two; have HGX := Lib.hid (HG.out.drew.trans hgx); have hlx := HGX.out.below.size; clear hgx hbx) | (go_at_call 208; refine (pace_any y _).mono ?_; rintro e wy ⟨rfl, hgy⟩; have hby := hgy.below; have hky := (hby.cell (p := ⟨B, 0, none⟩) (Nat.lt_of_lt_of_le hl HGX.out.below.size)).trans hkx; have hxy := hxx.below hby; have hyy := hyx.below hby; obtain ⟨xy0, xy1, -, -⟩ := hxy.two; obtain ⟨yy0, yy1, -, -⟩ := hyy.two; have HGY := Lib.hid (HGX.out.trans hgy); clear hgy hby) | (go_at_call 172; refine (compare_any _ _ _).mono ?_; rintro e wc ⟨rfl, rfl⟩) | fail)
  go_wp2
  go_ret
  exact ⟨rfl, HGY.out⟩
end Go.Proofs.Ytkocompjjogciaa

namespace Go.Proofs.Ytkocompjjogciaa
open Go.RowKit Go.Sort

def encW (x : Wk) : List Value := [.int .i64 x.1, .int .i64 x.2]
def cmpW (x y : Wk) : Int := Go.Lib.compareInt x.2 y.2
theorem encW_len (x : Wk) : (encW x).length = 2 := rfl
theorem encW_one (x : Wk) : ∀ v ∈ encW x, v.oneCell' = true := fun v hv => by
  simp [encW] at hv
  rcases hv with rfl | rfl <;> rfl
theorem cmpLays (g B n : Nat) (w : World) (hg : g < w.heap.size) (hB : B < w.heap.size) (hne : B ≠ g) (hc : w.cell? ⟨B, 0, none⟩ = some paceV) :
    CmpLays Try.prog 215 #[.pointer (some ⟨B, 0, none⟩)] encW 2 cmpW g 0 n w := by
  intro m os dk _ x y
  have hs := size_sortWorldK_c encW 2 w g 0 m dk os
  have hcell : (sortWorldK encW 2 w g 0 m dk os).cell? ⟨B, 0, none⟩ = some paceV := by
    unfold sortWorldK
    rw [cell?_grow _ _ _ (by rw [size_putRowK]; exact hB), cell?_putRowK_other _ _ _ _ _ _ _ hne]
    exact hc
  exact closure_any x y B _ (Nat.lt_of_lt_of_le hB hs) hcell

set_option maxHeartbeats 1600000 in
set_option maxRecDepth 100000 in
theorem stable_any (d : Array Wk) (g B cap : Nat) (w : World) (hH : HoldsK encW 2 w g 0 d) (hg : g < w.heap.size) (hB : B < w.heap.size) (hne : B ≠ g) (hc : w.cell? ⟨B, 0, none⟩ = some paceV) (h12 : d.size ≤ 12) :
    Calls Try.prog 219 #[.slice (some ⟨g, 0, none⟩) d.size cap, .int .i64 d.size, .func (.func 215) #[] #[.pointer (some ⟨B, 0, none⟩)]] w fun e w' => e = .returned (.tuple #[]) ∧ ∃ m os, w' = sortWorldK encW 2 w g 0 m (insertionSort wlt d 0 d.size) os := by
  have eg : ∀ args W, (callFunc 215 args).run Try.prog W = .ok (.enter 215 args) W := enters_of Try.func215 (by kernel_rfl) rfl
  have hins := AnyQ.insertionSortCmpFunc Try.laysW 2 Try.isAgg225 Try.sizeOf225 encW encW_len encW_one cmpW 215 #[.pointer (some ⟨B, 0, none⟩)] g 0 cap 0 d.size d w eg (cmpLays g B d.size w hg hB hne hc) hH hg (Nat.zero_le _) (Nat.le_refl _) (by omega)
  change Calls Try.prog 220 _ _ _ at hins
  rw [show ltOf cmpW = wlt from compare_lt] at hins
  generalize insertionSort wlt d 0 d.size = r at hins ⊢
  have h20 : (d.size : Int) < 20 := by omega
  have HI := Lib.hid hins
  clear hins hH hc
  go_enter Try.func219, Try.ntmps219
  go_wp2
  refine wp_loop_rounds 1 ?_
  rw [rounds_succ]
  go_wp2_with (go_at_call 220; refine HI.out.mono ?_; rintro e w' ⟨rfl, m, os, rfl⟩)
  refine wp_loop_rounds 1 ?_
  rw [rounds_succ]
  go_wp2
  go_end0
  exact ⟨rfl, m, os, rfl⟩

set_option maxHeartbeats 1600000 in
theorem stableFunc_any (d : Array Wk) (g B cap : Nat) (w : World) (hH : HoldsK encW 2 w g 0 d) (hg : g < w.heap.size) (hB : B < w.heap.size) (hne : B ≠ g) (hc : w.cell? ⟨B, 0, none⟩ = some paceV) (h12 : d.size ≤ 12) :
    Calls Try.prog 214 #[.slice (some ⟨g, 0, none⟩) d.size cap, .func (.func 215) #[] #[.pointer (some ⟨B, 0, none⟩)]] w fun e w' => e = .returned (.tuple #[]) ∧ ∃ m os, w' = sortWorldK encW 2 w g 0 m (insertionSort wlt d 0 d.size) os := by
  have hins := stable_any d g B cap w hH hg hB hne hc h12
  generalize insertionSort wlt d 0 d.size = r at hins ⊢
  have HI := Lib.hid hins
  clear hins hH hc
  go_enter Try.func214, Try.ntmps214
  go_wp2_with (go_at_call 219; refine HI.out.mono ?_; rintro e w' ⟨rfl, m, os, rfl⟩)
  go_end0
  exact ⟨rfl, m, os, rfl⟩

set_option maxHeartbeats 1600000 in
theorem sortBy_any (d : Array Wk) (g cap : Nat) (w : World) (hH : HoldsK encW 2 w g 0 d) (hg : g < w.heap.size) (h12 : d.size ≤ 12) :
    Calls Try.prog 207 #[.slice (some ⟨g, 0, none⟩) d.size cap, paceV] w fun e w' => e = .returned (.tuple #[]) ∧ ∃ m os, w' = sortWorldK encW 2 (w.alloc (.cells #[paceV] 239)) g 0 m (insertionSort wlt d 0 d.size) os := by
  have hH2 : HoldsK encW 2 (w.alloc (.cells #[paceV] 239)) g 0 d := by
    rw [alloc_eq_grow]
    exact holdsK_grow encW 2 w _ g 0 d hg hH
  have hins := stableFunc_any d g w.heap.size cap (w.alloc (.cells #[paceV] 239)) hH2 (by simp; omega) (by simp) (by omega) ((Whole.fresh w 239 #[paceV]).cell 0) h12
  generalize insertionSort wlt d 0 d.size = r at hins ⊢
  have HI := Lib.hid hins
  clear hins hH hH2
  go_enter Try.func207, Try.ntmps207
  go_wp2_with (go_at_call 214; refine HI.out.mono ?_; rintro e w' ⟨rfl, m, os, rfl⟩)
  go_end0
  exact ⟨rfl, m, os, rfl⟩
end Go.Proofs.Ytkocompjjogciaa

namespace Go.Proofs.Ytkocompjjogciaa
open Go.RowKit

/-- Times of people of whom two may cross at once. -/
def prOk (xs : List Int) : Bool := within xs.length 1 12 && allIn xs 1 1000
theorem prOk_len {xs : List Int} (h : xs.length < 1 ∨ 12 < xs.length) : prOk xs = false := by
  rw [prOk, within_no (by omega)]
  rfl
theorem prOk_time {xs : List Int} {k : Nat} (h : k < xs.length) (ht : xs[k] < 1 ∨ 1000 < xs[k]) : prOk xs = false := by
  rw [prOk, allIn_no h (within_no ht), Bool.and_false]
theorem prOk_all {xs : List Int} (h1 : 1 ≤ xs.length) (h2 : xs.length ≤ 12) (h : ∀ j (hj : j < xs.length), 1 ≤ xs[j] ∧ xs[j] ≤ 1000) : prOk xs = true := by
  rw [prOk, within_yes (by omega) (by omega), Bool.true_and, allIn_iff]
  intro y hy
  obtain ⟨j, hj, rfl⟩ := List.getElem_of_mem hy
  exact h j hj
theorem prOk_parts {xs : List Int} (h : prOk xs = true) : 1 ≤ xs.length ∧ xs.length ≤ 12 ∧ ∀ y ∈ xs, 1 ≤ y ∧ y ≤ 1000 := by
  simp only [prOk, Bool.and_eq_true] at h
  have h1 := within_iff.1 h.1
  exact ⟨by omega, by omega, (allIn_iff _ _ _).1 h.2⟩
/-- The people in the order in which they are told. -/
def plain (xs : List Int) (k : Nat) : List Wk := mk xs ((List.range k).map Int.ofNat)
theorem plain_len (xs : List Int) (k : Nat) : (plain xs k).length = k := by simp [plain, mk]
theorem plain_next (xs : List Int) (k : Nat) : plain xs (k + 1) = plain xs k ++ [((k : Int), tm xs k)] := by
  simp [plain, mk, List.range_succ]
theorem holdsK_squad {w : World} {g : Nat} {W : List Wk} {n : Int} (h : Whole w g 228 (squadCells W n)) (h12 : W.length ≤ 12) : Go.Sort.HoldsK encW 2 w g 0 W.toArray := by
  intro t ht
  refine ⟨?_, h.open_ _⟩
  rw [Go.Sort.size_flatK] at ht
  have hk : t / 2 < W.length := by simp at ht; omega
  rw [Nat.zero_add, h.cell t, Go.Sort.get_flatK _ _ _ _ ht]
  have hw : W.toArray[t / 2]! = wk W (t / 2) := by simp [wk, hk]
  rw [hw]
  rcases Nat.mod_two_eq_zero_or_one t with hm | hm
  · rw [hm]
    have := squad_who W n (k := t / 2) (by omega)
    rwa [show 2 * (t / 2) = t by omega] at this
  · rw [hm]
    have := squad_time W n (k := t / 2) (by omega)
    rwa [show 2 * (t / 2) + 1 = t by omega] at this
theorem put_squad {W : List Wk} {n : Int} {r : Array Wk} (h12 : W.length ≤ 12) (hr : r.size = W.length) : Go.Sort.putCells id 0 (Go.Sort.flatK encW 2 r) (squadCells W n) = squadCells r.toList n := by
  have hs : (Go.Sort.putCells id 0 (Go.Sort.flatK encW 2 r) (squadCells W n)).size = 25 := by simp [Go.Sort.putCells, squad_size]
  apply Array.ext_getElem?
  intro t
  rcases Nat.lt_or_ge t 25 with h25 | h25
  · have hat : (Go.Sort.putCells id 0 (Go.Sort.flatK encW 2 r) (squadCells W n))[t]? = ((squadCells W n)[t]?).map fun x => if t < r.size * 2 then (Go.Sort.flatK encW 2 r)[t]! else x := by
      simp [Go.Sort.putCells, Go.Sort.size_flatK]
    rw [hat]
    by_cases ht : t < r.size * 2
    · have hk : t / 2 < r.size := by omega
      have hw : r[t / 2]! = wk r.toList (t / 2) := by simp [wk, hk, getElem!_def]
      have hs1 : (squadCells W n)[t]? = some ((squadCells W n)[t]'(by rw [squad_size]; exact h25)) := Array.getElem?_eq_getElem _
      rw [hs1, Option.map_some, if_pos ht, Go.Sort.get_flatK _ _ _ _ ht, hw]
      rcases Nat.mod_two_eq_zero_or_one t with hm | hm
      · have := squad_who r.toList n (k := t / 2) (by omega)
        rw [show 2 * (t / 2) = t by omega] at this
        rw [this, hm]
        rfl
      · have := squad_time r.toList n (k := t / 2) (by omega)
        rw [show 2 * (t / 2) + 1 = t by omega] at this
        rw [this, hm]
        rfl
    · simp only [if_neg ht, Option.map_id']
      by_cases h24 : t = 24
      · subst h24; rfl
      · have hz : wk W (t / 2) = wk r.toList (t / 2) := by
          have h1 : W.length ≤ t / 2 := by omega
          have h2 : r.toList.length ≤ t / 2 := by simp; omega
          simp [wk, List.getD_eq_getElem?_getD, List.getElem?_eq_none h1, List.getElem?_eq_none h2]
        rcases Nat.mod_two_eq_zero_or_one t with hm | hm
        · have a := squad_who W n (k := t / 2) (by omega)
          have b := squad_who r.toList n (k := t / 2) (by omega)
          rw [show 2 * (t / 2) = t by omega] at a b
          rw [a, b, hz]
        · have a := squad_time W n (k := t / 2) (by omega)
          have b := squad_time r.toList n (k := t / 2) (by omega)
          rw [show 2 * (t / 2) + 1 = t by omega] at a b
          rw [a, b, hz]
  · rw [Array.getElem?_eq_none (by omega), Array.getElem?_eq_none (by rw [squad_size]; exact h25)]
theorem whole_sorted {w : World} {g m : Nat} {os : Array Obj} {W : List Wk} {n : Int} {r : Array Wk} (h : Whole w g 228 (squadCells W n)) (h12 : W.length ≤ 12) (hr : r.size = W.length) : Whole (sortWorldK encW 2 w g 0 m r os) g 228 (squadCells r.toList n) := by
  rw [← put_squad h12 hr]
  have hg := h.lt
  unfold Whole at h ⊢
  unfold sortWorldK Go.Sort.putRowK
  rw [Go.Sort.heap_grow_old _ _ (by simpa [Go.Sort.putRow, Go.Sort.mapBlock, Go.Sort.ahead] using hg)]
  simp only [Go.Sort.putRow, Go.Sort.mapBlock, Go.Sort.ahead, Array.getElem?_modify, h]
  rfl
theorem others_sorted {w : World} {g m : Nat} {os : Array Obj} {r : Array Wk} : (sortWorldK encW 2 w g 0 m r os).os = w.os ∧ (sortWorldK encW 2 w g 0 m r os).tape = w.tape ∧ (sortWorldK encW 2 w g 0 m r os).output = w.output ∧ w.heap.size ≤ (sortWorldK encW 2 w g 0 m r os).heap.size ∧ ∀ k, k < w.heap.size → k ≠ g → (sortWorldK encW 2 w g 0 m r os).heap[k]? = w.heap[k]? := by
  refine ⟨rfl, rfl, rfl, size_sortWorldK_c _ _ _ _ _ _ _ _, fun k hk hne => ?_⟩
  unfold sortWorldK Go.Sort.putRowK
  rw [Go.Sort.heap_grow_old _ _ (by simpa [Go.Sort.putRow, Go.Sort.mapBlock, Go.Sort.ahead] using hk)]
  have hne' : ¬ g = k := fun h => hne h.symm
  simp only [Go.Sort.putRow, Go.Sort.mapBlock, Go.Sort.ahead, Array.getElem?_modify, if_neg hne']

/-- What squadOf hands back. -/
def SquadPost (xs : List Int) (w : World) (e : Ending) (w' : World) : Prop :=
  ((prOk xs = true ∧ e = .returned (.tuple #[.agg (squadCells (mk xs (ord xs)) xs.length), .bool true])) ∨ (prOk xs = false ∧ e = .returned (.tuple #[.agg (squadCells [] 0), .bool false]))) ∧ Below w.heap.size w w'
end Go.Proofs.Ytkocompjjogciaa

namespace Go.Proofs.Ytkocompjjogciaa
open Go.RowKit

theorem squad_ret {w : World} {tmps : Array Value} {g : Nat} {cs : Array Value} {b : Bool} (h2 : tmps.getD 2 undef = .pointer (some ⟨g, 0, none⟩)) (h3 : tmps.getD 3 undef = .bool b) (hw : Whole w g 228 cs) (hs : cs.size = 25) :
    (results Try.f201 tmps).run Try.prog w = .ok (.tuple #[.agg cs, .bool b]) w := by
  have hl := run_loadVar_row (P := Try.prog) w g 228 228 cs (0, 0) _ hw Try.underlying228 rfl (by rw [hs]; exact size_squad)
  have h2' : tmps[2]?.getD undef = .pointer (some ⟨g, 0, none⟩) := by simpa using h2
  have h3' : tmps[3]?.getD undef = .bool b := by simpa using h3
  simp [results, Try.results201, h2', h3', asAddr, hl]

set_option maxHeartbeats 6400000 in
set_option maxRecDepth 100000 in
theorem squadOf_any (A : Option Addr) (n c : Nat) (xs : List Int) (w : World) (hA : Holds w A (nums xs)) (hx : xs.length = n) (hn : n ≤ 9223372036854775807) :
    Calls Try.prog 201 #[.slice A n c] w (SquadPost xs w) := by
  have HX := Lib.hid hx
  by_cases hlen : n < 1 ∨ 12 < n
  · have HNO := Lib.hid (prOk_len (xs := xs) (by omega))
    clear hx
    rcases hlen with hlen | hlen
    all_goals
      go_enter Try.func201, Try.ntmps201
      go_upto_region 1 with fail
      refine (?_ : ∀ W0, W0 = w.alloc (.cells (squadCells [] 0) 228) → Code.wp _ _ _ _ W0) _ rfl
      intro W0 hW0
      have h0 : Whole W0 w.heap.size 228 (squadCells [] 0) := by rw [hW0]; exact Whole.fresh w _ _
      have hb0 : Below w.heap.size w W0 := by rw [hW0]; exact below1 w _
      have HH0 := Lib.hid h0
      have HB0 := Lib.hid hb0
      clear hW0 h0 hb0
      go_upto_region 2 with fail
      go_wp2_with (refine wpList_store_whole rfl 228 (.tmp 2) (.tmp 15) rfl w.heap.size (squadCells [] 0) rfl rfl 228 (squadCells [] 0) HH0.out size_squad rfl (squad_one _ _) ?_; intro W1 hw1 ho1)
      have HW1 := Lib.hid hw1
      have HB1 := Lib.hid (ho1.below HB0.out (Nat.le_refl _))
      clear hw1 ho1
      refine bodyPost_ret (v := .tuple #[.agg (squadCells [] 0), .bool false]) (squad_ret rfl rfl HW1.out rfl) rfl ?_
      exact ⟨.inr ⟨HNO.out, rfl⟩, HB1.out⟩
  · have h12 : n ≤ 12 := by omega
    have h1n : 1 ≤ n := by omega
    clear hx hlen
    go_enter Try.func201, Try.ntmps201
    go_upto_region 1 with fail
    refine (?_ : ∀ W0, W0 = w.alloc (.cells (squadCells [] 0) 228) → Code.wp _ _ _ _ W0) _ rfl
    intro W0 hW0
    have h0 : Whole W0 w.heap.size 228 (squadCells [] 0) := by rw [hW0]; exact Whole.fresh w _ _
    have hb0 : Below w.heap.size w W0 := by rw [hW0]; exact below1 w _
    have hlt0 : w.heap.size < W0.heap.size := by rw [hW0]; simp
    have HH0 := Lib.hid h0
    have HB0 := Lib.hid hb0
    clear hW0 h0 hb0
    go_upto_region 3 with fail
    go_upto_region 4 with (refine wpList_store_whole rfl 228 (.tmp 4) (.tmp 18) rfl W0.heap.size (squadCells [] n) rfl rfl 228 _ (Whole.fresh _ _ _) size_squad rfl (squad_one _ _) ?_; intro W1 hw1 ho1)
    have hb1 := ho1.below (HB0.out.alloc HB0.out.size (.cells (squadCells [] 0) 228)) (Nat.le_of_lt hlt0)
    have h01 := ho1.whole (HH0.out.alloc (.cells (squadCells [] 0) 228)) (by omega)
    have HB1 := Lib.hid hb1
    have HW1 := Lib.hid hw1
    have H01 := Lib.hid h01
    clear hw1 ho1 hb1 h01
    go_wp2_with fail
    go_loopw [21] (fun i wr => ∃ k : Nat, k ≤ n ∧ i = .int .i64 k ∧ Whole wr w.heap.size 228 (squadCells [] 0) ∧ Whole wr W0.heap.size 228 (squadCells (plain xs k) n) ∧ Below w.heap.size w wr ∧ (∀ j (hj : j < xs.length), j < k → 1 ≤ xs[j] ∧ xs[j] ≤ 1000)) (fun i _ => n - (intOf i).toNat)
    case atStart => exact ⟨0, Nat.zero_le _, rfl, H01.out, HW1.out, HB1.out, fun j _ h => absurd h (by omega)⟩
    case round =>
      obtain ⟨k, hk, rfl, hz, hw, hb, hall⟩ := hrel
      clear HB1 HW1 H01
      by_cases hkn : k < n
      · have hkx : k < xs.length := by have := HX.out; omega
        obtain ⟨b1, o1, rfl, hbl1, hcell⟩ := (hA.below hb).look (k := k) (by rw [nums_len]; exact hkx)
        simp only [nums, List.getElem_map] at hcell
        have HZ := Lib.hid hz
        have HW := Lib.hid hw
        have HB := Lib.hid hb
        have HALL := Lib.hid hall
        have hbad := prOk_time (xs := xs) hkx
        have hgood : ∀ j (hj : j < xs.length), j < k + 1 → 1 ≤ xs[k] → xs[k] ≤ 1000 → 1 ≤ xs[j] ∧ xs[j] ≤ 1000 := fun j hj hjk h1 h2 => by
          rcases Nat.lt_or_ge j k with h | h
          · exact HALL.out j hj h
          · obtain rfl : j = k := by omega
            exact ⟨h1, h2⟩
        have htm := tm_at hkx
        generalize xs[k] = x at hcell hbad hgood htm
        have HGOOD := Lib.hid hgood
        have HTM := Lib.hid htm
        by_cases hxb : x < 1 ∨ 1000 < x
        · have HNO := Lib.hid (hbad hxb)
          clear hz hw hb hall hbad hgood htm
          rcases hxb with hxb | hxb
          all_goals
            go_wp2_with (refine wpList_store_whole rfl 228 (.tmp 2) (.tmp 32) rfl w.heap.size (squadCells [] 0) rfl rfl 228 (squadCells [] 0) HZ.out size_squad rfl (squad_one _ _) ?_; intro W2 hw2 ho2)
            have HW2 := Lib.hid hw2
            have HB2 := Lib.hid (ho2.below HB.out (Nat.le_refl _))
            clear hw2 ho2
            refine bodyPost_ret (v := .tuple #[.agg (squadCells [] 0), .bool false]) (squad_ret rfl rfl HW2.out rfl) rfl ?_
            exact ⟨.inr ⟨HNO.out, rfl⟩, HB2.out⟩
        · have hx1 : 1 ≤ x := by omega
          have hx2 : x ≤ 1000 := by omega
          have hk12 : (k : Int) < 12 := by omega
          have hc0 := (hw.cell (2 * k)).trans (squad_who _ _ (by omega))
          have hc1 := (hw.cell (2 * k + 1)).trans (squad_time _ _ (by omega))
          have hf0 := hw.open_ (2 * k)
          have hf1 := hw.open_ (2 * k + 1)
          clear hz hw hb hall hbad hgood htm hxb
          rw [show 2 * k = k * 2 from Nat.mul_comm _ _] at hc0 hc1 hf0 hf1
          go_upto_region 10 with fail
          have hwn : Whole ((wr.setCell ⟨W0.heap.size, k * 2, none⟩ (.int .i64 k)).setCell ⟨W0.heap.size, k * 2 + 1, none⟩ (.int .i64 x)) W0.heap.size 228 (squadCells (plain xs (k + 1)) n) := by
            have h := (HW.out.set_ (k * 2) (.int .i64 k)).set_ (k * 2 + 1) (.int .i64 x)
            have hn := squad_next (plain xs k) n ((k : Int), x) (by rw [plain_len]; omega)
            rw [plain_len, show 2 * k = k * 2 from Nat.mul_comm _ _] at hn
            rw [plain_next, HTM.out, ← hn]
            exact h
          have HWN := Lib.hid hwn
          have HZN := Lib.hid ((HZ.out.off (b := W0.heap.size) (o := k * 2) (u := .int .i64 k) (by omega)).off (b := W0.heap.size) (o := k * 2 + 1) (u := .int .i64 x) (by omega))
          have HBN := Lib.hid (below_set (below_set HB.out (b := W0.heap.size) (o := k * 2) (u := .int .i64 k) (by omega)) (b := W0.heap.size) (o := k * 2 + 1) (u := .int .i64 x) (by omega))
          clear hwn
          go_wp2
          go_roundw
          case rel => exact ⟨k + 1, by omega, by go_num, HZN.out, HWN.out, HBN.out, fun j hj h => HGOOD.out j hj h hx1 hx2⟩
          case measure => simp [intOf]; omega
      · obtain rfl : k = n := by omega
        have hok : prOk xs = true := prOk_all (by have := HX.out; omega) (by have := HX.out; omega) (fun j hj => hall j hj (by have := HX.out; omega))
        have HOK := Lib.hid hok
        have HZ := Lib.hid hz
        have HW := Lib.hid hw
        have HB := Lib.hid hb
        have hw24 := hw.cell 24
        rw [squad_n] at hw24
        have hgl := hw.lt
        have hds : (plain xs k).toArray.size = k := by simp [plain_len]
        have hsort := sortBy_any (plain xs k).toArray W0.heap.size 12 wr (holdsK_squad hw (by rw [plain_len]; omega)) hgl (by rw [hds]; omega)
        rw [hds] at hsort
        have hrl : (Go.Sort.insertionSort wlt (plain xs k).toArray 0 k).toList = mk xs (ord xs) := by
          have := sort_list xs (plain xs k).toArray (by simp [plain, HX.out])
          rw [HX.out] at this
          exact this
        generalize Go.Sort.insertionSort wlt (plain xs k).toArray 0 k = r at hsort hrl
        have hrs : r.size = (plain xs k).length := by rw [plain_len, ← Array.length_toList, hrl, mk_len, ord_len, HX.out]
        have HS := Lib.hid hsort
        have HRL := Lib.hid hrl
        have HRS := Lib.hid hrs
        have HPL := Lib.hid (plain_len xs k)
        have hk0 : (0 : Int) ≤ (k : Int) := by omega
        have hk12 : (k : Int) ≤ 12 := by omega
        clear hz hw hb hall hok hsort hrl hrs hds
        unfold paceV at HS
        go_wp2_with fail
        refine HS.out.mono ?_
        rintro e w2 ⟨rfl, m, os, hw2⟩
        have HWA := HW.out.alloc (.cells #[paceV] 239)
        have hw3 : Whole w2 W0.heap.size 228 (squadCells r.toList k) := by rw [hw2]; exact whole_sorted HWA (by rw [HPL.out]; omega) HRS.out
        obtain ⟨q1, q2, q3, q4, q5⟩ := others_sorted (w := wr.alloc (.cells #[paceV] 239)) (g := W0.heap.size) (m := m) (os := os) (r := r)
        have hz3 : Whole w2 w.heap.size 228 (squadCells [] 0) := by rw [hw2]; exact (q5 _ (HZ.out.alloc _).lt (by omega)).trans (HZ.out.alloc _)
        have hb3 : Below w.heap.size w w2 := by
          rw [hw2]
          refine (HB.out.alloc HB.out.size (.cells #[paceV] 239)).trans ⟨q1, q2, q3, q4, fun j hj => q5 j (by have := HB.out.size; simp; omega) (by omega)⟩
        have HW3 := Lib.hid hw3
        have HZ3 := Lib.hid hz3
        have HB3 := Lib.hid hb3
        clear hw2 HWA hw3 q1 q2 q3 q4 q5 hz3 hb3 hw24
        go_wp2_with (first | (refine wpList_load_row rfl 228 (.tmp 4) rfl W0.heap.size rfl 228 (squadCells r.toList k) (0, 0) _ HW3.out Try.underlying228 rfl size_squad ?_) | (refine wpList_store_whole rfl 228 (.tmp 2) (.tmp 45) rfl w.heap.size (squadCells r.toList k) rfl rfl 228 (squadCells [] 0) HZ3.out size_squad rfl (squad_one _ _) ?_; intro W4 hw4 ho4))
        have HW4 := Lib.hid hw4
        have HB4 := Lib.hid (ho4.below HB3.out (Nat.le_refl _))
        clear hw4 ho4
        refine bodyPost_ret (v := .tuple #[.agg (squadCells r.toList k), .bool true]) (squad_ret rfl rfl HW4.out rfl) rfl ?_
        rw [HRL.out]
        exact ⟨.inl ⟨HOK.out, by rw [HX.out]⟩, HB4.out⟩
end Go.Proofs.Ytkocompjjogciaa

namespace Go.Proofs.Ytkocompjjogciaa
open Go.RowKit

/-- The people in their order, if there are times; else nobody. -/
def sqW (xs : List Int) : List Wk := if prOk xs then mk xs (ord xs) else []
theorem sqW_yes {xs : List Int} (h : prOk xs = true) : sqW xs = mk xs (ord xs) := if_pos h
theorem sqW_no {xs : List Int} (h : prOk xs = false) : sqW xs = [] := if_neg (by simp [h])
theorem sqW_len (xs : List Int) : (sqW xs).length ≤ 12 := by
  cases h : prOk xs
  · rw [sqW_no h]; simp
  · rw [sqW_yes h, mk_len, ord_len]
    exact (prOk_parts h).2.1
theorem squad_as {xs : List Int} {w w' : World} {e : Ending} (h : SquadPost xs w e w') : e = .returned (.tuple #[.agg (squadCells (sqW xs) (sqW xs).length), .bool (prOk xs)]) ∧ Below w.heap.size w w' := by
  rcases h with ⟨⟨hp, rfl⟩ | ⟨hp, rfl⟩, hb⟩
  · exact ⟨by rw [sqW_yes hp, hp, mk_len, ord_len], hb⟩
  · exact ⟨by rw [sqW_no hp, hp]; rfl, hb⟩
theorem own_fresh1 {w : World} {lo n c : Nat} {ty : TypeId} {A : Option Addr} {xs : List Value} (h : w.ownsRow lo ty 1 (.slice A n c) n xs) : Fresh w lo w.heap.size ty A xs := by
  obtain ⟨A', c', hv, hf⟩ := Fresh.of_own h (Nat.le_refl _)
  obtain ⟨rfl, -⟩ : A = A' ∧ c = c' := by simpa using hv
  exact hf
/-- What a call hands back that makes a list and tells whether it did. -/
def ListPost (ls : List Int) (ok : Bool) (w : World) (e : Ending) (w' : World) : Prop :=
  ∃ (A : Option Addr) (c : Nat), e = .returned (.tuple #[.slice A ls.length c, .bool ok]) ∧ Fresh w' w.heap.size w'.heap.size 3 A (nums ls) ∧ Below w.heap.size w w'
theorem ListPost.no {w w' : World} (h : Below w.heap.size w w') : ListPost [] false w (.returned (.tuple #[.slice none 0 0, .bool false])) w' := ⟨none, 0, rfl, .inl rfl, h⟩
theorem ListPost.own {ls : List Int} {ok : Bool} {w w' : World} {A : Option Addr} {c : Nat} (h : w'.ownsRow w.heap.size 3 1 (.slice A ls.length c) ls.length (nums ls)) (hb : Below w.heap.size w w') : ListPost ls ok w (.returned (.tuple #[.slice A ls.length c, .bool ok])) w' :=
  ⟨A, c, rfl, own_fresh1 h, hb⟩

def ranked (xs : List Int) : List Int := if prOk xs then ord xs else []
theorem ranked_map (xs : List Int) : (sqW xs).map (fun x => x.1) = ranked xs := by
  cases h : prOk xs
  · simp [sqW, ranked, h]
  · simp only [sqW, ranked, h, mk, if_true, List.map_map]
    exact List.map_id _
theorem ranked_le (xs : List Int) : (ranked xs).length ≤ 1048576 := by
  rw [← ranked_map, List.length_map]
  have := sqW_len xs
  omega
/-- The first k of some people. -/
def whos (W : List Wk) (k : Nat) : List Int := (W.take k).map (fun x => x.1)
theorem whos_next {W : List Wk} {k : Nat} (h : k < W.length) : whos W (k + 1) = whos W k ++ [(wk W k).1] := by
  rw [whos, List.take_succ_eq_append_getElem h, List.map_append]
  simp [whos, wk, h]
theorem whos_len {W : List Wk} {k : Nat} (h : k ≤ W.length) : (whos W k).length = k := by simp [whos]; omega

end Go.Proofs.Ytkocompjjogciaa

namespace Go.Proofs.Ytkocompjjogciaa
open Go.RowKit

/-- Two boxes that the call has made, each with a person. -/
def TwoBoxes (lo : Nat) (a b : Wk) (w : World) (s5 s6 : Value) (wx : World) : Prop :=
  ∃ p q : Nat, s5 = .pointer (some ⟨p, 0, none⟩) ∧ s6 = .pointer (some ⟨q, 0, none⟩) ∧ lo ≤ p ∧ lo ≤ q ∧ p ≠ q ∧ Whole wx p 225 #[.int .i64 a.1, .int .i64 a.2] ∧ Whole wx q 225 #[.int .i64 b.1, .int .i64 b.2] ∧ Below lo w wx

theorem two_ab (a b : Wk) (w : World) : TwoBoxes w.heap.size a b w (.pointer (some ⟨w.heap.size, 0, none⟩)) (.pointer (some ⟨w.heap.size + 1, 0, none⟩)) ((w.alloc (.cells #[.int .i64 a.1, .int .i64 a.2] 225)).alloc (.cells #[.int .i64 b.1, .int .i64 b.2] 225)).drew := by
  refine ⟨w.heap.size, w.heap.size + 1, rfl, rfl, Nat.le_refl _, Nat.le_succ _, by omega, ((Whole.fresh w _ _).alloc _).drew, ?_, (below2 w _ _).drew⟩
  have h := (Whole.fresh (w.alloc (.cells #[.int .i64 a.1, .int .i64 a.2] 225)) 225 #[.int .i64 b.1, .int .i64 b.2]).drew
  rw [World.size_alloc] at h
  exact h
theorem two_ba (a b : Wk) (w : World) : TwoBoxes w.heap.size a b w (.pointer (some ⟨w.heap.size + 1, 0, none⟩)) (.pointer (some ⟨w.heap.size, 0, none⟩)) ((w.alloc (.cells #[.int .i64 b.1, .int .i64 b.2] 225)).alloc (.cells #[.int .i64 a.1, .int .i64 a.2] 225)).drew := by
  refine ⟨w.heap.size + 1, w.heap.size, rfl, rfl, Nat.le_succ _, Nat.le_refl _, by omega, ?_, ((Whole.fresh w _ _).alloc _).drew, (below2 w _ _).drew⟩
  have h := (Whole.fresh (w.alloc (.cells #[.int .i64 b.1, .int .i64 b.2] 225)) 225 #[.int .i64 a.1, .int .i64 a.2]).drew
  rw [World.size_alloc] at h
  exact h

set_option maxHeartbeats 6400000 in
set_option maxRecDepth 100000 in
theorem fetchGain_any (W : List Wk) (y : Wk) (w : World) (ha0 : 0 ≤ (wk W 0).2) (ha1 : (wk W 0).2 ≤ 1000) (hb0 : 0 ≤ (wk W 1).2) (hb1 : (wk W 1).2 ≤ 1000) (hy0 : 0 ≤ y.2) (hy1 : y.2 ≤ 1000) :
    Calls Try.prog 210 #[.agg (squadCells W W.length), .agg #[.int .i64 y.1, .int .i64 y.2]] w fun e w' => e = .returned (.int .i64 ((wk W 0).2 + y.2 - 2 * (wk W 1).2)) ∧ Below w.heap.size w w' := by
  have h0 := (Whole.fresh w 228 (squadCells W W.length)).alloc (.cells #[.int .i64 y.1, .int .i64 y.2] 225)
  have hy := Whole.fresh (w.alloc (.cells (squadCells W W.length) 228)) 225 #[.int .i64 y.1, .int .i64 y.2]
  rw [World.size_alloc] at hy
  have hbw := below2 w (.cells (squadCells W W.length) 228) (.cells #[.int .i64 y.1, .int .i64 y.2] 225)
  have a0 := (h0.cell 0).trans (squad_who W W.length (k := 0) (by omega))
  have a1 := (h0.cell 1).trans (squad_time W W.length (k := 0) (by omega))
  have b0 := (h0.cell 2).trans (squad_who W W.length (k := 1) (by omega))
  have b1 := (h0.cell 3).trans (squad_time W W.length (k := 1) (by omega))
  obtain ⟨W0, hW0⟩ : ∃ W0, W0 = (w.alloc (.cells (squadCells W W.length) 228)).alloc (.cells #[.int .i64 y.1, .int .i64 y.2] 225) := ⟨_, rfl⟩
  rw [← hW0] at h0 hy hbw a0 a1 b0 b1
  have hl0 := hy.lt
  have HW0 := Lib.hid hW0
  have HY := Lib.hid hy
  have HBW := Lib.hid hbw
  generalize wk W 0 = a at *
  generalize wk W 1 = b at *
  clear h0 hy hbw hW0
  go_enter Try.func210, Try.ntmps210
  go_wp2_with fail
  go_cut [5, 6] from 7 to 12 (fun s5 s6 wx => TwoBoxes W0.heap.size a b W0 s5 s6 wx)
  case first =>
    rw [← HW0.out]
    have hn1 : ¬ W0.heap.size = w.heap.size := by omega
    have hn2 : ¬ W0.heap.size + 1 = w.heap.size := by omega
    have hn3 : ¬ w.heap.size = W0.heap.size := by omega
    have hn4 : ¬ w.heap.size = W0.heap.size + 1 := by omega
    go_region_held3 (fun w' => (w'.cell? ⟨w.heap.size, 0, none⟩ = some (.int .i64 a.1) ∧ w'.cell? ⟨w.heap.size, 1, none⟩ = some (.int .i64 a.2)) ∧ (w'.cell? ⟨w.heap.size, 2, none⟩ = some (.int .i64 b.1) ∧ w'.cell? ⟨w.heap.size, 3, none⟩ = some (.int .i64 b.2))) (go_keep) (fail)
    all_goals (go_wp2_with fail; go_meet)
    all_goals first | exact two_ab a b W0 | exact two_ba a b W0
  obtain ⟨p, q, rfl, rfl, hp, hq, hpq, hwp, hwq, hb⟩ := hcut
  obtain ⟨k0, k1, -, -⟩ := (HY.out.below hb).two
  obtain ⟨p0, p1, -, -⟩ := hwp.two
  obtain ⟨q0, q1, -, -⟩ := hwq.two
  have HB := Lib.hid (below_then HBW.out hb HBW.out.size)
  clear hwp hwq hb a0 a1 b0 b1
  go_wp2
  go_ret
  exact ⟨rfl, HB.out⟩
end Go.Proofs.Ytkocompjjogciaa

namespace Go.Proofs.Ytkocompjjogciaa
open Go.RowKit

/-- A trip's cells. -/
def ptCells (t : Pt) : Array Value := #[.int .i64 t.1.1, .int .i64 t.1.2, .int .i64 t.2.1, .int .i64 t.2.2]
def ptsCells (ts : List Pt) : List Value := ts.flatMap fun t => (ptCells t).toList
theorem pts_app (a b : List Pt) : ptsCells (a ++ b) = ptsCells a ++ ptsCells b := List.flatMap_append
theorem pts_len (ts : List Pt) : (ptsCells ts).length = ts.length * 4 := by
  induction ts with
  | nil => rfl
  | cons t ts ih =>
    have h : ptsCells (t :: ts) = (ptCells t).toList ++ ptsCells ts := rfl
    rw [h, List.length_append, ih, List.length_cons]
    simp [ptCells]
    omega
theorem pts_one (ts : List Pt) : ∀ u ∈ ptsCells ts, u.oneCell' = true := by
  intro u hu
  simp only [ptsCells, List.mem_flatMap, ptCells, List.mem_cons, List.not_mem_nil, or_false] at hu
  obtain ⟨t, -, rfl | rfl | rfl | rfl⟩ := hu <;> rfl
theorem info_pt : (Try.prog.info? 233).map (fun i => (i.zero, i.size, i.bytes)) = some (some (.agg #[.int .i64 0, .int .i64 0, .int .i64 0, .int .i64 0]), 4, 32) := by kernel_rfl

set_option maxHeartbeats 1600000 in
theorem alone_any (x : Wk) (w : World) : Calls Try.prog 209 #[.agg #[.int .i64 x.1, .int .i64 x.2]] w fun e w' => e = .returned (.agg #[.int .i64 x.1, .int .i64 x.2, .int .i64 x.1, .int .i64 x.2]) ∧ Below w.heap.size w w' := by
  have hb := below2 w (.cells #[.int .i64 x.1, .int .i64 x.2] 225) (.cells #[.int .i64 0, .int .i64 0, .int .i64 0, .int .i64 0] 233)
  have HB := Lib.hid hb
  clear hb
  go_enter Try.func209, Try.ntmps209
  go_wp2
  exact bodyPost_ret (v := .agg #[.int .i64 x.1, .int .i64 x.2, .int .i64 x.1, .int .i64 x.2]) (by simp [results, Try.results209, go_sem]) rfl ⟨rfl, below2 w _ _⟩

theorem wpList_load_row_g {P : Program} {ops : Array Oper} {rest : List Oper} {o : Oper} {a : Act} {w : World} {Q : Exit → Act → World → Prop} (hw : Region.wanted o (yielded ops a.tmps) = true) (ty : TypeId) (x : Operand) (ho : o.op = .load ty x)
    (g : Nat) (hx : a.eval x = .pointer (some ⟨g, 0, none⟩)) (t : TypeId) (cs : Array Value) (fr : Nat × Nat) (d : TypeDesc) (hg : w.heap[g]? = some (.cells cs t fr))
    (hu : P.underlying ty = some d) (hd : (match d with | .struct _ | .array _ _ => true | _ => false) = true) (hi : (P.info? ty).map (·.size) = some cs.size)
    (h : wpList P ops Q rest (a.put o.dst (.agg cs)) w) : wpList P ops Q (o :: rest) a w :=
  BigFrame.wpList_want hw fun _ hK => wp_load_row ty x ho g hx t cs fr d hg hu hd hi (hK _ _ h)

theorem pts_news (w : World) (ts : List Pt) : ∀ j u, (ptsCells ts)[j]? = some u → (w.alloc (.cells (ptsCells ts).toArray 233)).cell? ((⟨w.heap.size, 0, none⟩ : Addr).add j) = some u := by
  have h := cells_fresh w 233 (ptsCells ts).toArray
  simpa using h
/-- What trips hands back. -/
def TripsPost (ts : List Pt) (w : World) (e : Ending) (w' : World) : Prop :=
  ∃ (E : Option Addr) (d : Nat), e = .returned (.slice E ts.length d) ∧ w'.ownsRow w.heap.size 233 4 (.slice E ts.length d) ts.length (ptsCells ts) ∧ Below w.heap.size w w'
/-- The trips under way while k are not over. -/
def TripsTo (f : Bool) (W : List Wk) (k lo : Nat) (wr : World) (v : Value) (acc : List Pt) : Prop :=
  ∃ (E : Option Addr) (d : Nat), v = .slice E acc.length d ∧ wr.ownsRow lo 233 4 (.slice E acc.length d) acc.length (ptsCells acc) ∧ acc ++ tripsT f W k = tripsT f W W.length
/-- Times that no sum of three makes too great. -/
def Mild (W : List Wk) : Prop := ∀ k, 0 ≤ (wk W k).2 ∧ (wk W k).2 ≤ 1000

/-- Four boxes, each with a person. -/
structure Four (wx : World) (p q r t : Nat) (a b y z : Wk) : Prop where
  pa : Whole wx p 225 #[.int .i64 a.1, .int .i64 a.2]
  qb : Whole wx q 225 #[.int .i64 b.1, .int .i64 b.2]
  ry : Whole wx r 225 #[.int .i64 y.1, .int .i64 y.2]
  tz : Whole wx t 225 #[.int .i64 z.1, .int .i64 z.2]
theorem Four.below {wx w' : World} {p q r t : Nat} {a b y z : Wk} (h : Four wx p q r t a b y z) (hb : Below wx.heap.size wx w') : Four w' p q r t a b y z := ⟨h.pa.below hb, h.qb.below hb, h.ry.below hb, h.tz.below hb⟩
theorem Four.keep {wx w' : World} {p q r t B : Nat} {a b y z : Wk} (h : Four wx p q r t a b y z) (hb : Below B wx w') (hp : p < B) (hq : q < B) (hr : r < B) (ht : t < B) : Four w' p q r t a b y z := ⟨h.pa.below' hb hp, h.qb.below' hb hq, h.ry.below' hb hr, h.tz.below' hb ht⟩
theorem Four.cells {wx : World} {p q r t : Nat} {a b y z : Wk} (h : Four wx p q r t a b y z) :
    (wx.cell? ⟨p, 0, none⟩ = some (.int .i64 a.1) ∧ wx.cell? ⟨p, 1, none⟩ = some (.int .i64 a.2)) ∧ (wx.cell? ⟨q, 0, none⟩ = some (.int .i64 b.1) ∧ wx.cell? ⟨q, 1, none⟩ = some (.int .i64 b.2)) ∧ (wx.cell? ⟨r, 0, none⟩ = some (.int .i64 y.1) ∧ wx.cell? ⟨r, 1, none⟩ = some (.int .i64 y.2)) ∧ (wx.cell? ⟨t, 0, none⟩ = some (.int .i64 z.1) ∧ wx.cell? ⟨t, 1, none⟩ = some (.int .i64 z.2)) :=
  ⟨⟨h.pa.two.1, h.pa.two.2.1⟩, ⟨h.qb.two.1, h.qb.two.2.1⟩, ⟨h.ry.two.1, h.ry.two.2.1⟩, h.tz.two.1, h.tz.two.2.1⟩
theorem four_grown {w w' : World} {p q r t : Nat} {a b y z : Wk} {row : Option Nat} (h : Four w p q r t a b y z) (hg : w.grownBy w' row) (hd : ∀ kk, row = some kk → kk ≠ p ∧ kk ≠ q ∧ kk ≠ r ∧ kk ≠ t) : Four w' p q r t a b y z :=
  ⟨(hg.block p h.pa.lt (fun e => (hd p e.symm).1 rfl)).trans h.pa, (hg.block q h.qb.lt (fun e => (hd q e.symm).2.1 rfl)).trans h.qb, (hg.block r h.ry.lt (fun e => (hd r e.symm).2.2.1 rfl)).trans h.ry, (hg.block t h.tz.lt (fun e => (hd t e.symm).2.2.2 rfl)).trans h.tz⟩
theorem tripsT_step (f : Bool) (W : List Wk) {k y : Nat} (h4 : 4 ≤ k) (hy : y + 2 = k) : tripsT f W k = round f W y ++ tripsT f W y := by
  obtain ⟨m, rfl⟩ : ∃ m, k = m + 4 := ⟨k - 4, by omega⟩
  obtain rfl : y = m + 2 := by omega
  rw [tripsT]

set_option maxHeartbeats 12800000 in
set_option maxRecDepth 100000 in
theorem trips_any (W : List Wk) (f : Bool) (w : World) (h1 : 1 ≤ W.length) (h12 : W.length ≤ 12) (hmild : Mild W) :
    Calls Try.prog 202 #[.agg (squadCells W W.length), .bool f] w (TripsPost (tripsT f W W.length) w) := by
  obtain ⟨i1, ri, rz0, rz1, rz2⟩ := info_parts info_pt
  have RI := Lib.hid ri
  have RZ0 := Lib.hid rz0
  have RZ1 := Lib.hid rz1
  have RZ2 := Lib.hid rz2
  have HTL := Lib.hid (trips_len f W W.length)
  have h0 := Whole.fresh w 228 (squadCells W W.length)
  have hb0 := below1 w (.cells (squadCells W W.length) 228)
  have a0 := (h0.cell 0).trans (squad_who W W.length (k := 0) (by omega))
  have a1 := (h0.cell 1).trans (squad_time W W.length (k := 0) (by omega))
  have b0 := (h0.cell 2).trans (squad_who W W.length (k := 1) (by omega))
  have b1 := (h0.cell 3).trans (squad_time W W.length (k := 1) (by omega))
  obtain ⟨W0, hW0⟩ : ∃ W0, W0 = w.alloc (.cells (squadCells W W.length) 228) := ⟨_, rfl⟩
  rw [← hW0] at h0 hb0 a0 a1 b0 b1
  have hl0 := h0.lt
  have HW0 := Lib.hid hW0
  have H0 := Lib.hid h0
  have HB0 := Lib.hid hb0
  have HMILD := Lib.hid hmild
  obtain ⟨a, hwa⟩ : ∃ a, a = wk W 0 := ⟨_, rfl⟩
  obtain ⟨b, hwb⟩ : ∃ b, b = wk W 1 := ⟨_, rfl⟩
  rw [← hwa] at a0 a1
  rw [← hwb] at b0 b1
  have HWA := Lib.hid hwa
  have HWB := Lib.hid hwb
  clear hW0 h0 hb0 hwa hwb hmild ri rz0 rz1 rz2
  go_enter Try.func202, Try.ntmps202
  go_wp2_with fail
  go_step3
  go_wp2_with fail
  go_cut [5, 6] from 11 to 16 (fun s5 s6 wx => TwoBoxes W0.heap.size a b W0 s5 s6 wx)
  case first =>
    rw [← HW0.out]
    have hn1 : ¬ W0.heap.size = w.heap.size := by omega
    have hn2 : ¬ W0.heap.size + 1 = w.heap.size := by omega
    have hn3 : ¬ w.heap.size = W0.heap.size := by omega
    have hn4 : ¬ w.heap.size = W0.heap.size + 1 := by omega
    go_region_held3 (fun w' => (w'.cell? ⟨w.heap.size, 0, none⟩ = some (.int .i64 a.1) ∧ w'.cell? ⟨w.heap.size, 1, none⟩ = some (.int .i64 a.2)) ∧ (w'.cell? ⟨w.heap.size, 2, none⟩ = some (.int .i64 b.1) ∧ w'.cell? ⟨w.heap.size, 3, none⟩ = some (.int .i64 b.2))) (go_keep) (fail)
    all_goals (go_wp2_with fail; go_meet)
    all_goals first | exact two_ab a b W0 | exact two_ba a b W0
  obtain ⟨W1, rfl⟩ : ∃ W1 : World, W1 = wc := ⟨_, rfl⟩
  obtain ⟨p, q, rfl, rfl, hp, hq, hpq, hwp, hwq, hb⟩ := hcut
  have HQ1 := Lib.hid (H0.out.below hb)
  have HP1 := Lib.hid hwp
  have HR1 := Lib.hid hwq
  have HB1 := Lib.hid (below_then HB0.out hb HB0.out.size)
  have hpl := hwp.lt
  have hql := hwq.lt
  have hgl : w.heap.size < W1.heap.size := by have := hb.size; omega
  have h24 := (HQ1.out.cell 24).trans (squad_n _ _)
  clear hwp hwq hb a0 a1 b0 b1
  go_wp2_with fail
  go_step3
  go_wp2_with fail
  clear h24
  go_loopw [7, 8] (fun l v wr => ∃ (k : Nat) (acc : List Pt), 1 ≤ k ∧ k ≤ W.length ∧ l = .int .i64 k ∧ TripsTo f W k W1.heap.size wr v acc ∧ Below W1.heap.size W1 wr) (fun l _ _ => (intOf l).toNat)
  case atStart => exact ⟨W.length, [], h1, Nat.le_refl _, rfl, ⟨none, 0, rfl, World.ownsRow_nil _ _ _ _, rfl⟩, Below.refl _ _⟩
  case round =>
    obtain ⟨k, acc, hk1, hkn, rfl, ⟨E, d, rfl, hown, hacc⟩, hb⟩ := hrel
    have hwz : W1.heap.size ≤ wr.heap.size := hb.size
    have hpw := HP1.out.below hb
    have hqw := HR1.out.below hb
    have hsw := HQ1.out.below hb
    have hal : acc.length ≤ 24 := by
      have h := congrArg List.length hacc
      have := HTL.out
      simp at h
      omega
    obtain ⟨p0, p1, -, -⟩ := hpw.two
    obtain ⟨q0, q1, -, -⟩ := hqw.two
    have HSW := Lib.hid hsw
    have HPW := Lib.hid hpw
    have HQW := Lib.hid hqw
    have HO := Lib.hid hown
    have HB := Lib.hid hb
    by_cases e1 : k = 1
    · subst e1
      have HACC : Hid (acc ++ [(a, a)] = tripsT f W W.length) := by show _ = _; rw [← hacc, HWA.out]; rfl
      clear hpw hqw hsw hown hacc hb
      go_wp2_with fail
      refine (alone_any a _).mono ?_
      rintro e w2 ⟨rfl, hb2⟩
      have hs2 : wr.heap.size ≤ w2.heap.size := hb2.size
      have HO2 := Lib.hid (own_below HO.out hb2)
      have HB2 := Lib.hid (below_then HB.out hb2 hwz)
      clear hb2
      have HOW := Lib.hid (HO2.out.alloc (.cells (ptsCells [(a, a)]).toArray 233))
      have HBB := Lib.hid (HB2.out.alloc (Nat.le_trans hwz hs2) (.cells (ptsCells [(a, a)]).toArray 233))
      have hnew : ∀ j u, (ptsCells [(a, a)])[j]? = some u → (w2.alloc (.cells (ptsCells [(a, a)]).toArray 233)).cell? ((⟨w2.heap.size, 0, none⟩ : Addr).add j) = some u := by
        have h := cells_fresh w2 233 (ptsCells [(a, a)]).toArray
        simpa using h
      have HNEW := Lib.hid hnew
      clear hnew
      have HLN := Lib.hid (pts_len [(a, a)])
      have HMX := Lib.hid (show acc.length + 1 ≤ maxLen by unfold maxLen; omega)
      have HBY := Lib.hid (show (acc.length + 1) * 32 ≤ 140737488355328 by omega)
      have HBS := Lib.hid (show W1.heap.size ≤ (w2.alloc (.cells (ptsCells [(a, a)]).toArray 233)).heap.size by simp; omega)
      go_wp2_with (at_builtin; refine wpList_append_lies _ rfl (.tmp 22) (.tmp 25) 206 rfl W1.heap.size 233 i1 (.agg #[.int .i64 0, .int .i64 0, .int .i64 0, .int .i64 0]) 4 32 Try.underlying206 RI.out RZ0.out RZ1.out RZ2.out rfl (by decide) (.slice E acc.length d) acc.length (ptsCells acc) rfl HOW.out ⟨w2.heap.size, 0, none⟩ 1 1 (ptsCells [(a, a)]) rfl HLN.out HNEW.out (pts_one _) (by decide) HMX.out HBY.out HBS.out (w2.heap.size + 1) (by simp) ?_; intro g3 c3 w3 hown3 hg3 hat3 hlt3)
      have hbf : Below W1.heap.size W1 w3 := HBB.out.grown hg3 HBS.out (fun kk e => (HOW.out.lt kk e).1)
      have HBF := Lib.hid (HB1.out.trans (hbf.mono (Nat.le_trans (Nat.le_of_lt hgl) (Nat.le_refl _))))
      have hof : w3.ownsRow w.heap.size 233 4 (.slice (some ⟨g3, 0, none⟩) (acc.length + 1) c3) (acc.length + 1) (ptsCells (tripsT f W W.length)) := by
        rw [← HACC.out, pts_app]
        exact own_lower hown3 (Nat.le_of_lt hgl)
      have HOF := Lib.hid hof
      have HLF : Hid ((tripsT f W W.length).length = acc.length + 1) := by show _ = _; rw [← HACC.out]; simp
      clear hbf hof hown3 hg3 hat3 hlt3
      go_wp2
      rw [Exit.noGoto_ret]
      go_ret
      exact ⟨some ⟨g3, 0, none⟩, c3, by rw [HLF.out]; rfl, by rw [HLF.out]; exact HOF.out, HBF.out⟩
    by_cases e2 : k = 2
    · subst e2
      have HACC : Hid (acc ++ [(a, b)] = tripsT f W W.length) := by show _ = _; rw [← hacc, HWA.out, HWB.out]; rfl
      clear hpw hqw hsw hown hacc hb
      have HOW := Lib.hid (HO.out.alloc (.cells (ptsCells [(a, b)]).toArray 233))
      have HBB := Lib.hid (HB.out.alloc hwz (.cells (ptsCells [(a, b)]).toArray 233))
      have hnew : ∀ j u, (ptsCells [(a, b)])[j]? = some u → (wr.alloc (.cells (ptsCells [(a, b)]).toArray 233)).cell? ((⟨wr.heap.size, 0, none⟩ : Addr).add j) = some u := by
        have h := cells_fresh wr 233 (ptsCells [(a, b)]).toArray
        simpa using h
      have HNEW := Lib.hid hnew
      clear hnew
      have HLN := Lib.hid (pts_len [(a, b)])
      have HMX := Lib.hid (show acc.length + 1 ≤ maxLen by unfold maxLen; omega)
      have HBY := Lib.hid (show (acc.length + 1) * 32 ≤ 140737488355328 by omega)
      have HBS := Lib.hid (show W1.heap.size ≤ (wr.alloc (.cells (ptsCells [(a, b)]).toArray 233)).heap.size by simp; omega)
      go_wp2_with (at_builtin; refine wpList_append_lies _ rfl (.tmp 29) (.tmp 33) 206 rfl W1.heap.size 233 i1 (.agg #[.int .i64 0, .int .i64 0, .int .i64 0, .int .i64 0]) 4 32 Try.underlying206 RI.out RZ0.out RZ1.out RZ2.out rfl (by decide) (.slice E acc.length d) acc.length (ptsCells acc) rfl HOW.out ⟨wr.heap.size, 0, none⟩ 1 1 (ptsCells [(a, b)]) rfl HLN.out HNEW.out (pts_one _) (by decide) HMX.out HBY.out HBS.out (wr.heap.size + 1) (by simp) ?_; intro g3 c3 w3 hown3 hg3 hat3 hlt3)
      have hbf : Below W1.heap.size W1 w3 := HBB.out.grown hg3 HBS.out (fun kk e => (HOW.out.lt kk e).1)
      have HBF := Lib.hid (HB1.out.trans (hbf.mono (Nat.le_trans (Nat.le_of_lt hgl) (Nat.le_refl _))))
      have hof : w3.ownsRow w.heap.size 233 4 (.slice (some ⟨g3, 0, none⟩) (acc.length + 1) c3) (acc.length + 1) (ptsCells (tripsT f W W.length)) := by
        rw [← HACC.out, pts_app]
        exact own_lower hown3 (Nat.le_of_lt hgl)
      have HOF := Lib.hid hof
      have HLF : Hid ((tripsT f W W.length).length = acc.length + 1) := by show _ = _; rw [← HACC.out]; simp
      clear hbf hof hown3 hg3 hat3 hlt3
      go_wp2
      rw [Exit.noGoto_ret]
      go_ret
      exact ⟨some ⟨g3, 0, none⟩, c3, by rw [HLF.out]; rfl, by rw [HLF.out]; exact HOF.out, HBF.out⟩
    by_cases e3 : k = 3
    · subst e3
      obtain ⟨c, hc⟩ : ∃ c, c = wk W 2 := ⟨_, rfl⟩
      have HWC := Lib.hid hc
      have HACC : Hid (acc ++ [(a, b), (a, a), (a, c)] = tripsT f W W.length) := by show _ = _; rw [← hacc, HWA.out, HWB.out, hc]; rfl
      have c4 := (hsw.cell 4).trans (squad_who W W.length (k := 2) (by omega))
      have c5 := (hsw.cell 5).trans (squad_time W W.length (k := 2) (by omega))
      rw [← hc] at c4 c5
      clear hpw hqw hsw hown hacc hb hc
      go_wp2_with fail
      go_region_held3 (fun w' => (w'.cell? ⟨p, 0, none⟩ = some (.int .i64 a.1) ∧ w'.cell? ⟨p, 1, none⟩ = some (.int .i64 a.2)) ∧ (w'.cell? ⟨q, 0, none⟩ = some (.int .i64 b.1) ∧ w'.cell? ⟨q, 1, none⟩ = some (.int .i64 b.2)) ∧ (w'.cell? ⟨w.heap.size, 4, none⟩ = some (.int .i64 c.1) ∧ w'.cell? ⟨w.heap.size, 5, none⟩ = some (.int .i64 c.2))) (go_keep)
        (first | (go_at_call 209; refine (alone_any a _).mono ?_; rintro e w2 ⟨rfl, hb2⟩; have hs2 : wr.heap.size ≤ w2.heap.size := hb2.size; have hp2 := HPW.out.drew.below hb2; have hq2 := HQW.out.drew.below hb2; have hs22 := HSW.out.drew.below hb2; obtain ⟨r0, r1, -, -⟩ := hp2.two; obtain ⟨t0, t1, -, -⟩ := hq2.two; have d4 := (hs22.cell 4).trans (squad_who W W.length (k := 2) (by omega)); have d5 := (hs22.cell 5).trans (squad_time W W.length (k := 2) (by omega)); rw [← HWC.out] at d4 d5; have HO2 := Lib.hid (own_below (own_below HO.out (Below.refl wr.heap.size wr).drew) hb2); have HB2 := Lib.hid (below_then HB.out.drew hb2 hwz); have HOW := Lib.hid (HO2.out.alloc (.cells (ptsCells [(a, b), (a, a), (a, c)]).toArray 233)); have HBB := Lib.hid (HB2.out.alloc (Nat.le_trans hwz hs2) (.cells (ptsCells [(a, b), (a, a), (a, c)]).toArray 233)); have HNEW := Lib.hid (pts_news w2 [(a, b), (a, a), (a, c)]); have HLN := Lib.hid (pts_len [(a, b), (a, a), (a, c)]); have HMX := Lib.hid (show acc.length + 3 ≤ maxLen from (by unfold maxLen; omega)); have HBY := Lib.hid (show (acc.length + 3) * 32 ≤ 140737488355328 from (by omega)); have HBS := Lib.hid (show W1.heap.size ≤ (w2.alloc (.cells (ptsCells [(a, b), (a, a), (a, c)]).toArray 233)).heap.size from (by simp; omega)); clear hb2 hp2 hq2 hs22) | (refine step_append_lies _ rfl (.tmp 37) (.tmp 48) 206 rfl W1.heap.size 233 i1 (.agg #[.int .i64 0, .int .i64 0, .int .i64 0, .int .i64 0]) 4 32 Try.underlying206 RI.out RZ0.out RZ1.out RZ2.out rfl (by decide) (.slice E acc.length d) acc.length (ptsCells acc) (by simp [Act.eval]) HOW.out ⟨w2.heap.size, 0, none⟩ 3 3 (ptsCells [(a, b), (a, a), (a, c)]) (by simp [Act.eval]) HLN.out HNEW.out (pts_one _) (by decide) HMX.out HBY.out HBS.out (w2.heap.size + 1) (by simp) ?_; intro g3 c3 w3 hown3 hg3 hat3 hlt3; have hbf : Below W1.heap.size W1 w3 := HBB.out.grown hg3 HBS.out (fun kk e => (HOW.out.lt kk e).1); have HBF := Lib.hid hbf; have HG3 := Lib.hid hown3; obtain ⟨u0, u1, -, -⟩ := (HP1.out.below hbf).two; obtain ⟨v0, v1, -, -⟩ := (HR1.out.below hbf).two; have f4 := ((HQ1.out.below hbf).cell 4).trans (squad_who W W.length (k := 2) (by omega)); have f5 := ((HQ1.out.below hbf).cell 5).trans (squad_time W W.length (k := 2) (by omega)); rw [← HWC.out] at f4 f5; clear hbf hown3 hg3 hat3) | fail)
      have HBG := Lib.hid (HB1.out.trans (HBF.out.mono (Nat.le_of_lt hgl)))
      have hof : w3.ownsRow w.heap.size 233 4 (.slice (some ⟨g3, 0, none⟩) (acc.length + 3) c3) (acc.length + 3) (ptsCells (tripsT f W W.length)) := by
        rw [← HACC.out, pts_app]
        exact own_lower HG3.out (Nat.le_of_lt hgl)
      have HOF := Lib.hid hof
      have HLF : Hid ((tripsT f W W.length).length = acc.length + 3) := by show _ = _; rw [← HACC.out]; simp
      clear hof
      go_wp2
      rw [Exit.noGoto_ret]
      go_ret
      exact ⟨some ⟨g3, 0, none⟩, c3, by rw [HLF.out]; rfl, by rw [HLF.out]; exact HOF.out, HBG.out⟩
    have hk4 : 4 ≤ k := by omega
    obtain ⟨y, hky⟩ : ∃ y, y + 2 = k := ⟨k - 2, by omega⟩
    obtain ⟨z, hkz⟩ : ∃ z, z + 1 = k := ⟨k - 1, by omega⟩
    have hs2 : (k : Int) - 2 = (y : Int) := by omega
    have hs1 : (k : Int) - 1 = (z : Int) := by omega
    have hw2 : IntKind.i64.wrap ((k : Int) - 2) = (y : Int) := by rw [hs2]; exact IntWalk.i64_in _ (by omega)
    have hw1 : IntKind.i64.wrap ((k : Int) - 1) = (z : Int) := by rw [hs1]; exact IntWalk.i64_in _ (by omega)
    have hwy : IntKind.i64.wrap (y : Int) = (y : Int) := IntWalk.i64_in _ (by omega)
    have hwz' : IntKind.i64.wrap (z : Int) = (z : Int) := IntWalk.i64_in _ (by omega)
    have hb1 : ((k : Int) == 1) = false := by simp; omega
    have hb2 : ((k : Int) == 2) = false := by simp; omega
    have hb3 : ((k : Int) == 3) = false := by simp; omega
    have hy0 : (0 : Int) ≤ (y : Int) := by omega
    have hz0 : (0 : Int) ≤ (z : Int) := by omega
    have hy12 : (y : Int) < 12 := by omega
    have hz12 : (z : Int) < 12 := by omega
    have HZY : Hid (z = y + 1) := by show _ = _; omega
    have HACC : Hid (acc ++ (round f W y ++ tripsT f W y) = tripsT f W W.length) := by show _ = _; rw [← tripsT_step f W hk4 hky]; exact hacc
    have hY0 := (hsw.cell (2 * y)).trans (squad_who W W.length (k := y) (by omega))
    have hY1 := (hsw.cell (2 * y + 1)).trans (squad_time W W.length (k := y) (by omega))
    have hZ0 := (hsw.cell (2 * z)).trans (squad_who W W.length (k := z) (by omega))
    have hZ1 := (hsw.cell (2 * z + 1)).trans (squad_time W W.length (k := z) (by omega))
    rw [show 2 * y = y * 2 from Nat.mul_comm _ _] at hY0 hY1
    rw [show 2 * z = z * 2 from Nat.mul_comm _ _] at hZ0 hZ1
    obtain ⟨Y, hY⟩ : ∃ Y, Y = wk W y := ⟨_, rfl⟩
    obtain ⟨Z, hZ⟩ : ∃ Z, Z = wk W z := ⟨_, rfl⟩
    rw [← hY] at hY0 hY1
    rw [← hZ] at hZ0 hZ1
    have HY := Lib.hid hY
    have HZ := Lib.hid hZ
    have HKY := Lib.hid hky
    have hyk : y < k := by omega
    have hy2 : 2 ≤ y := by omega
    have hyn : y ≤ W.length := by omega
    clear hpw hqw hsw hown hacc hb hky hkz hY hZ e1 e2 e3
    go_wp2_with fail
    go_cut [9, 10] from 50 to 59 (fun s9 s10 wx => TwoBoxes wr.heap.size Y Z wr s9 s10 wx)
    case first =>
      have hn1 : ¬ wr.heap.size = w.heap.size := by omega
      have hn2 : ¬ wr.heap.size + 1 = w.heap.size := by omega
      have hn3 : ¬ w.heap.size = wr.heap.size := by omega
      have hn4 : ¬ w.heap.size = wr.heap.size + 1 := by omega
      go_region_held3 (fun w' => (w'.cell? ⟨w.heap.size, y * 2, none⟩ = some (.int .i64 Y.1) ∧ w'.cell? ⟨w.heap.size, y * 2 + 1, none⟩ = some (.int .i64 Y.2)) ∧ (w'.cell? ⟨w.heap.size, z * 2, none⟩ = some (.int .i64 Z.1) ∧ w'.cell? ⟨w.heap.size, z * 2 + 1, none⟩ = some (.int .i64 Z.2))) (go_keep) (fail)
      all_goals (go_wp2_with fail; go_meet)
      all_goals first | exact two_ab Y Z wr | exact two_ba Y Z wr
    case rest =>
      obtain ⟨w5, rfl⟩ : ∃ w5 : World, w5 = wc := ⟨_, rfl⟩
      obtain ⟨r, t, rfl, rfl, hr, ht, hrt, hwr, hwt, hb⟩ := hcut
      have H45 := Lib.hid (Four.mk (HPW.out.below hb) (HQW.out.below hb) hwr hwt)
      have HS5 := Lib.hid (HSW.out.below hb)
      have HO5 := Lib.hid (own_below HO.out hb)
      have HB5 := Lib.hid (below_then HB.out hb hwz)
      have hz5 : W1.heap.size ≤ w5.heap.size := Nat.le_trans hwz hb.size
      have HFAR : Hid (∀ kk, (Value.slice E acc.length d).ownBlock = some kk → kk ≠ p ∧ kk ≠ q ∧ kk ≠ r ∧ kk ≠ t) := fun kk e => by
        have := HO.out.lt kk e
        omega
      clear hwr hwt hb hY0 hY1 hZ0 hZ1
      cases f
      · have HAC : Hid (acc ++ ([(a, Z), (a, a), (a, Y), (a, a)] ++ tripsT false W y) = tripsT false W W.length) := by show _ = _; rw [← HACC.out, HWA.out, HY.out, HZ.out, HZY.out]; rfl
        obtain ⟨⟨i0, i1'⟩, ⟨i2, i3⟩, ⟨i4, i5⟩, i6, i7⟩ := H45.out.cells
        go_wp2_with fail
        go_region_held3 (fun w' => (w'.cell? ⟨p, 0, none⟩ = some (.int .i64 a.1) ∧ w'.cell? ⟨p, 1, none⟩ = some (.int .i64 a.2)) ∧ (w'.cell? ⟨q, 0, none⟩ = some (.int .i64 b.1) ∧ w'.cell? ⟨q, 1, none⟩ = some (.int .i64 b.2)) ∧ (w'.cell? ⟨r, 0, none⟩ = some (.int .i64 Y.1) ∧ w'.cell? ⟨r, 1, none⟩ = some (.int .i64 Y.2)) ∧ (w'.cell? ⟨t, 0, none⟩ = some (.int .i64 Z.1) ∧ w'.cell? ⟨t, 1, none⟩ = some (.int .i64 Z.2))) (go_keep)
          (first | (go_at_call 209; refine (alone_any a _).mono ?_; rintro e w7 ⟨rfl, hb7⟩; have hs7 : w6.heap.size ≤ w7.heap.size := hb7.size; have H47 := Lib.hid (H46.out.below hb7); obtain ⟨⟨l0, l1⟩, ⟨l2, l3⟩, ⟨l4, l5⟩, l6, l7⟩ := H47.out.cells; have HO7 := Lib.hid (own_below HO6.out hb7); have HB7 := Lib.hid (below_then HB6.out hb7 (Nat.le_trans hz5 hs6)); have HOW := Lib.hid (HO7.out.alloc (.cells (ptsCells [(a, Z), (a, a), (a, Y), (a, a)]).toArray 233)); have HBB := Lib.hid (HB7.out.alloc (Nat.le_trans hz5 (Nat.le_trans hs6 hs7)) (.cells (ptsCells [(a, Z), (a, a), (a, Y), (a, a)]).toArray 233)); have HNEW := Lib.hid (pts_news w7 [(a, Z), (a, a), (a, Y), (a, a)]); have HLN := Lib.hid (pts_len [(a, Z), (a, a), (a, Y), (a, a)]); have HMX := Lib.hid (show acc.length + 4 ≤ maxLen from (by unfold maxLen; omega)); have HBY := Lib.hid (show (acc.length + 4) * 32 ≤ 140737488355328 from (by omega)); have HBS := Lib.hid (show W1.heap.size ≤ (w7.alloc (.cells (ptsCells [(a, Z), (a, a), (a, Y), (a, a)]).toArray 233)).heap.size from (by simp; omega)); clear hb7) | (go_at_call 209; refine (alone_any a _).mono ?_; rintro e w6 ⟨rfl, hb6⟩; have hs6 : w5.heap.size ≤ w6.heap.size := hb6.size; have H46 := Lib.hid ((H45.out.below (Below.refl w5.heap.size w5).drew).below hb6); obtain ⟨⟨j0, j1⟩, ⟨j2, j3⟩, ⟨j4, j5⟩, j6, j7⟩ := H46.out.cells; have HO6 := Lib.hid (own_below (own_below HO5.out (Below.refl w5.heap.size w5).drew) hb6); have HB6 := Lib.hid (below_then HB5.out.drew hb6 hz5); clear hb6) | (refine step_append_lies _ rfl (.tmp 80) (.tmp 91) 206 rfl W1.heap.size 233 i1 (.agg #[.int .i64 0, .int .i64 0, .int .i64 0, .int .i64 0]) 4 32 Try.underlying206 RI.out RZ0.out RZ1.out RZ2.out rfl (by decide) (.slice E acc.length d) acc.length (ptsCells acc) (by simp [Act.eval]) HOW.out ⟨w7.heap.size, 0, none⟩ 4 4 (ptsCells [(a, Z), (a, a), (a, Y), (a, a)]) (by simp [Act.eval]) HLN.out HNEW.out (pts_one _) (by decide) HMX.out HBY.out HBS.out (w7.heap.size + 1) (by simp) ?_; intro g3 c3 w3 hown3 hg3 hat3 hlt3; have HBF := Lib.hid (HBB.out.grown hg3 HBS.out (fun kk e => (HOW.out.lt kk e).1)); have HG3 := Lib.hid hown3; have H48 := Lib.hid (four_grown (H47.out.below (below1 w7 _)) hg3 (fun kk e => HFAR.out kk e)); obtain ⟨⟨m0, m1⟩, ⟨m2, m3⟩, ⟨m4, m5⟩, m6, m7⟩ := H48.out.cells; clear hown3 hg3 hat3) | fail)
        have HLA : Hid ((acc ++ [(a, Z), (a, a), (a, Y), (a, a)]).length = acc.length + 4) := by show _ = _; simp
        go_wp2
        go_roundw
        case rel => exact ⟨y, acc ++ [(a, Z), (a, a), (a, Y), (a, a)], by omega, hyn, by go_num, ⟨some ⟨g3, 0, none⟩, c3, by rw [HLA.out], by rw [HLA.out, pts_app]; exact HG3.out, by rw [List.append_assoc]; exact HAC.out⟩, HBF.out⟩
        case measure => simp [intOf]; omega
      · obtain ⟨⟨i0, i1'⟩, ⟨i2, i3⟩, ⟨i4, i5⟩, i6, i7⟩ := H45.out.cells
        go_wp2_with (refine wpList_load_row_g rfl 228 (.tmp 2) rfl w.heap.size rfl 228 (squadCells W W.length) (0, 0) _ HS5.out Try.underlying228 rfl size_squad ?_)
        have hm0 := HMILD.out 0
        have hm1 := HMILD.out 1
        have hmy := HMILD.out y
        refine (fetchGain_any W Y w5 hm0.1 hm0.2 hm1.1 hm1.2 (by rw [HY.out]; exact hmy.1) (by rw [HY.out]; exact hmy.2)).mono ?_
        rintro e w4 ⟨rfl, hb⟩
        clear hm0 hm1 hmy i0 i1' i2 i3 i4 i5 i6 i7
        have hg0 : (wk W 0).2 + Y.2 - 2 * (wk W 1).2 = gainOf W y := by rw [HY.out]; rfl
        rw [hg0]
        clear hg0
        have H44 := Lib.hid (H45.out.below hb)
        have HO4 := Lib.hid (own_below HO5.out hb)
        have HB4 := Lib.hid (below_then HB5.out hb hz5)
        have hz4 : W1.heap.size ≤ w4.heap.size := Nat.le_trans hz5 hb.size
        clear hb H45 HO5 HB5 hz5 HS5
        have H45 := H44
        have HO5 := HO4
        have HB5 := HB4
        have hz5 := hz4
        clear H44 HO4 HB4 hz4
        obtain ⟨w5, rfl⟩ : ∃ w5 : World, w5 = w4 := ⟨_, rfl⟩
        obtain ⟨⟨i0, i1'⟩, ⟨i2, i3⟩, ⟨i4, i5⟩, i6, i7⟩ := H45.out.cells
        generalize hge : gainOf W y = gn
        by_cases hgp : 0 < gn
        · have HAC : Hid (acc ++ ([(a, b), (a, a), (Y, Z), (b, b)] ++ tripsT true W y) = tripsT true W W.length) := by show _ = _; rw [← HACC.out, HWA.out, HWB.out, HY.out, HZ.out, HZY.out, round, if_pos (by rw [hge]; simp [hgp])]
          have hgd : decide (0 < gn) = true := by simp [hgp]
          clear hge
          go_wp2_with fail
          go_region_held3 (fun w' => (w'.cell? ⟨p, 0, none⟩ = some (.int .i64 a.1) ∧ w'.cell? ⟨p, 1, none⟩ = some (.int .i64 a.2)) ∧ (w'.cell? ⟨q, 0, none⟩ = some (.int .i64 b.1) ∧ w'.cell? ⟨q, 1, none⟩ = some (.int .i64 b.2)) ∧ (w'.cell? ⟨r, 0, none⟩ = some (.int .i64 Y.1) ∧ w'.cell? ⟨r, 1, none⟩ = some (.int .i64 Y.2)) ∧ (w'.cell? ⟨t, 0, none⟩ = some (.int .i64 Z.1) ∧ w'.cell? ⟨t, 1, none⟩ = some (.int .i64 Z.2))) (go_keep)
          (first | (go_at_call 209; refine (alone_any b _).mono ?_; rintro e w7 ⟨rfl, hb7⟩; have hs7 : w6.heap.size ≤ w7.heap.size := hb7.size; have H47 := Lib.hid (H46.out.below hb7); obtain ⟨⟨l0, l1⟩, ⟨l2, l3⟩, ⟨l4, l5⟩, l6, l7⟩ := H47.out.cells; have HO7 := Lib.hid (own_below HO6.out hb7); have HB7 := Lib.hid (below_then HB6.out hb7 (Nat.le_trans hz5 hs6)); have HOW := Lib.hid (HO7.out.alloc (.cells (ptsCells [(a, b), (a, a), (Y, Z), (b, b)]).toArray 233)); have HBB := Lib.hid (HB7.out.alloc (Nat.le_trans hz5 (Nat.le_trans hs6 hs7)) (.cells (ptsCells [(a, b), (a, a), (Y, Z), (b, b)]).toArray 233)); have HNEW := Lib.hid (pts_news w7 [(a, b), (a, a), (Y, Z), (b, b)]); have HLN := Lib.hid (pts_len [(a, b), (a, a), (Y, Z), (b, b)]); have HMX := Lib.hid (show acc.length + 4 ≤ maxLen from (by unfold maxLen; omega)); have HBY := Lib.hid (show (acc.length + 4) * 32 ≤ 140737488355328 from (by omega)); have HBS := Lib.hid (show W1.heap.size ≤ (w7.alloc (.cells (ptsCells [(a, b), (a, a), (Y, Z), (b, b)]).toArray 233)).heap.size from (by simp; omega)); clear hb7) | (go_at_call 209; refine (alone_any a _).mono ?_; rintro e w6 ⟨rfl, hb6⟩; have hs6 : w5.heap.size ≤ w6.heap.size := hb6.size; have H46 := Lib.hid ((H45.out.below (Below.refl w5.heap.size w5).drew).below hb6); obtain ⟨⟨j0, j1⟩, ⟨j2, j3⟩, ⟨j4, j5⟩, j6, j7⟩ := H46.out.cells; have HO6 := Lib.hid (own_below (own_below HO5.out (Below.refl w5.heap.size w5).drew) hb6); have HB6 := Lib.hid (below_then HB5.out.drew hb6 hz5); clear hb6) | (refine step_append_lies _ rfl (.tmp 67) (.tmp 78) 206 rfl W1.heap.size 233 i1 (.agg #[.int .i64 0, .int .i64 0, .int .i64 0, .int .i64 0]) 4 32 Try.underlying206 RI.out RZ0.out RZ1.out RZ2.out rfl (by decide) (.slice E acc.length d) acc.length (ptsCells acc) (by simp [Act.eval]) HOW.out ⟨w7.heap.size, 0, none⟩ 4 4 (ptsCells [(a, b), (a, a), (Y, Z), (b, b)]) (by simp [Act.eval]) HLN.out HNEW.out (pts_one _) (by decide) HMX.out HBY.out HBS.out (w7.heap.size + 1) (by simp) ?_; intro g3 c3 w3 hown3 hg3 hat3 hlt3; have HBF := Lib.hid (HBB.out.grown hg3 HBS.out (fun kk e => (HOW.out.lt kk e).1)); have HG3 := Lib.hid hown3; have H48 := Lib.hid (four_grown (H47.out.below (below1 w7 _)) hg3 (fun kk e => HFAR.out kk e)); obtain ⟨⟨m0, m1⟩, ⟨m2, m3⟩, ⟨m4, m5⟩, m6, m7⟩ := H48.out.cells; clear hown3 hg3 hat3) | fail)
          have HLA : Hid ((acc ++ [(a, b), (a, a), (Y, Z), (b, b)]).length = acc.length + 4) := by show _ = _; simp
          go_wp2
          go_roundw
          case rel => exact ⟨y, acc ++ [(a, b), (a, a), (Y, Z), (b, b)], by omega, hyn, by go_num, ⟨some ⟨g3, 0, none⟩, c3, by rw [HLA.out], by rw [HLA.out, pts_app]; exact HG3.out, by rw [List.append_assoc]; exact HAC.out⟩, HBF.out⟩
          case measure => simp [intOf]; omega
        · have HAC : Hid (acc ++ ([(a, Z), (a, a), (a, Y), (a, a)] ++ tripsT true W y) = tripsT true W W.length) := by show _ = _; rw [← HACC.out, HWA.out, HY.out, HZ.out, HZY.out, round, if_neg (by rw [hge]; simp; omega)]
          have hgd : decide (0 < gn) = false := by simp; omega
          clear hge
          go_wp2_with fail
          go_region_held3 (fun w' => (w'.cell? ⟨p, 0, none⟩ = some (.int .i64 a.1) ∧ w'.cell? ⟨p, 1, none⟩ = some (.int .i64 a.2)) ∧ (w'.cell? ⟨q, 0, none⟩ = some (.int .i64 b.1) ∧ w'.cell? ⟨q, 1, none⟩ = some (.int .i64 b.2)) ∧ (w'.cell? ⟨r, 0, none⟩ = some (.int .i64 Y.1) ∧ w'.cell? ⟨r, 1, none⟩ = some (.int .i64 Y.2)) ∧ (w'.cell? ⟨t, 0, none⟩ = some (.int .i64 Z.1) ∧ w'.cell? ⟨t, 1, none⟩ = some (.int .i64 Z.2))) (go_keep)
          (first | (go_at_call 209; refine (alone_any a _).mono ?_; rintro e w7 ⟨rfl, hb7⟩; have hs7 : w6.heap.size ≤ w7.heap.size := hb7.size; have H47 := Lib.hid (H46.out.below hb7); obtain ⟨⟨l0, l1⟩, ⟨l2, l3⟩, ⟨l4, l5⟩, l6, l7⟩ := H47.out.cells; have HO7 := Lib.hid (own_below HO6.out hb7); have HB7 := Lib.hid (below_then HB6.out hb7 (Nat.le_trans hz5 hs6)); have HOW := Lib.hid (HO7.out.alloc (.cells (ptsCells [(a, Z), (a, a), (a, Y), (a, a)]).toArray 233)); have HBB := Lib.hid (HB7.out.alloc (Nat.le_trans hz5 (Nat.le_trans hs6 hs7)) (.cells (ptsCells [(a, Z), (a, a), (a, Y), (a, a)]).toArray 233)); have HNEW := Lib.hid (pts_news w7 [(a, Z), (a, a), (a, Y), (a, a)]); have HLN := Lib.hid (pts_len [(a, Z), (a, a), (a, Y), (a, a)]); have HMX := Lib.hid (show acc.length + 4 ≤ maxLen from (by unfold maxLen; omega)); have HBY := Lib.hid (show (acc.length + 4) * 32 ≤ 140737488355328 from (by omega)); have HBS := Lib.hid (show W1.heap.size ≤ (w7.alloc (.cells (ptsCells [(a, Z), (a, a), (a, Y), (a, a)]).toArray 233)).heap.size from (by simp; omega)); clear hb7) | (go_at_call 209; refine (alone_any a _).mono ?_; rintro e w6 ⟨rfl, hb6⟩; have hs6 : w5.heap.size ≤ w6.heap.size := hb6.size; have H46 := Lib.hid ((H45.out.below (Below.refl w5.heap.size w5).drew).below hb6); obtain ⟨⟨j0, j1⟩, ⟨j2, j3⟩, ⟨j4, j5⟩, j6, j7⟩ := H46.out.cells; have HO6 := Lib.hid (own_below (own_below HO5.out (Below.refl w5.heap.size w5).drew) hb6); have HB6 := Lib.hid (below_then HB5.out.drew hb6 hz5); clear hb6) | (refine step_append_lies _ rfl (.tmp 80) (.tmp 91) 206 rfl W1.heap.size 233 i1 (.agg #[.int .i64 0, .int .i64 0, .int .i64 0, .int .i64 0]) 4 32 Try.underlying206 RI.out RZ0.out RZ1.out RZ2.out rfl (by decide) (.slice E acc.length d) acc.length (ptsCells acc) (by simp [Act.eval]) HOW.out ⟨w7.heap.size, 0, none⟩ 4 4 (ptsCells [(a, Z), (a, a), (a, Y), (a, a)]) (by simp [Act.eval]) HLN.out HNEW.out (pts_one _) (by decide) HMX.out HBY.out HBS.out (w7.heap.size + 1) (by simp) ?_; intro g3 c3 w3 hown3 hg3 hat3 hlt3; have HBF := Lib.hid (HBB.out.grown hg3 HBS.out (fun kk e => (HOW.out.lt kk e).1)); have HG3 := Lib.hid hown3; have H48 := Lib.hid (four_grown (H47.out.below (below1 w7 _)) hg3 (fun kk e => HFAR.out kk e)); obtain ⟨⟨m0, m1⟩, ⟨m2, m3⟩, ⟨m4, m5⟩, m6, m7⟩ := H48.out.cells; clear hown3 hg3 hat3) | fail)
          have HLA : Hid ((acc ++ [(a, Z), (a, a), (a, Y), (a, a)]).length = acc.length + 4) := by show _ = _; simp
          go_wp2
          go_roundw
          case rel => exact ⟨y, acc ++ [(a, Z), (a, a), (a, Y), (a, a)], by omega, hyn, by go_num, ⟨some ⟨g3, 0, none⟩, c3, by rw [HLA.out], by rw [HLA.out, pts_app]; exact HG3.out, by rw [List.append_assoc]; exact HAC.out⟩, HBF.out⟩
          case measure => simp [intOf]; omega
end Go.Proofs.Ytkocompjjogciaa

namespace Go.Proofs.Ytkocompjjogciaa
open Go.RowKit

/-- The same place with other numbers. -/
def RowV.put (r : RowV) (ys : List Int) : RowV := ⟨r.A, r.n, r.c, ys⟩
/-- Rows of the call's own, each in a range of blocks that no other one meets. -/
def FreeRows (w : World) (ps : List (Nat × Nat)) (rs : List RowV) : Prop :=
  ps.length = rs.length ∧ (∀ (k : Nat) r p, rs[k]? = some r → ps[k]? = some p → Fresh w p.1 p.2 3 r.A (nums r.xs) ∧ r.xs.length = r.n ∧ r.n ≤ 1048576) ∧
    ∀ (i j : Nat) p p', i ≠ j → ps[i]? = some p → ps[j]? = some p' → p.2 ≤ p'.1 ∨ p'.2 ≤ p.1
/-- A list of lists of the call's own, all of it in blocks from lo on and before hi. -/
def FreeGrid (w : World) (lo hi : Nat) (A : Option Addr) (rs : List RowV) : Prop :=
  ∃ ps, FreeRows w ps rs ∧ (∀ p ∈ ps, lo ≤ p.1 ∧ p.2 ≤ hi) ∧ (rs = [] ∨ ∃ b o, A = some ⟨b, o, none⟩ ∧ b < w.heap.size ∧ lo ≤ b ∧ b < hi ∧ (∀ p ∈ ps, b < p.1 ∨ p.2 ≤ b) ∧ ∀ j u, (rowVals rs)[j]? = some u → w.cell? ⟨b, o + j, none⟩ = some u)
section
variable {w w' : World} {lo hi lo' hi' : Nat} {A : Option Addr} {rs : List RowV} {ps : List (Nat × Nat)}
theorem FreeRows.below (h : FreeRows w ps rs) (hb : Below w.heap.size w w') : FreeRows w' ps rs :=
  ⟨h.1, fun k r p hr hp => ⟨(h.2.1 k r p hr hp).1.below hb, (h.2.1 k r p hr hp).2⟩, h.2.2⟩
theorem FreeGrid.below (h : FreeGrid w lo hi A rs) (hb : Below w.heap.size w w') : FreeGrid w' lo hi A rs := by
  obtain ⟨ps, h1, h2, h3⟩ := h
  refine ⟨ps, h1.below hb, h2, ?_⟩
  rcases h3 with h3 | ⟨b, o, hA, hl, g1, g2, hd, hc⟩
  · exact .inl h3
  · exact .inr ⟨b, o, hA, Nat.lt_of_lt_of_le hl hb.size, g1, g2, hd, fun j u hu => (hb.cell (p := ⟨b, o + j, none⟩) hl).trans (hc j u hu)⟩
theorem FreeGrid.alloc (h : FreeGrid w lo hi A rs) (o : Obj) : FreeGrid (w.alloc o) lo hi A rs := h.below (below1 w o)
theorem FreeGrid.drew (h : FreeGrid w lo hi A rs) : FreeGrid w.drew lo hi A rs := h.below ⟨rfl, rfl, rfl, Nat.le_refl _, fun _ _ => rfl⟩
theorem FreeGrid.more (h : FreeGrid w lo hi A rs) (h1 : lo' ≤ lo) (h2 : hi ≤ hi') : FreeGrid w lo' hi' A rs := by
  obtain ⟨ps, g1, g2, g3⟩ := h
  refine ⟨ps, g1, fun p hp => ⟨Nat.le_trans h1 (g2 p hp).1, Nat.le_trans (g2 p hp).2 h2⟩, ?_⟩
  rcases g3 with g3 | ⟨b, o, hA, hl, k1, k2, hd, hc⟩
  · exact .inl g3
  · exact .inr ⟨b, o, hA, hl, Nat.le_trans h1 k1, Nat.lt_of_lt_of_le k2 h2, hd, hc⟩
theorem FreeGrid.grid (h : FreeGrid w lo hi A rs) : Grid w A rs := by
  obtain ⟨ps, g1, g2, g3⟩ := h
  refine ⟨?_, fun r hr => ?_⟩
  · rcases g3 with rfl | ⟨b, o, hA, hl, -, -, -, hc⟩
    · exact .inl rfl
    · exact .inr ⟨b, o, hA, hl, hc⟩
  · obtain ⟨k, hk, rfl⟩ := List.getElem_of_mem hr
    obtain ⟨a1, a2, a3⟩ := g1.2.1 k rs[k] (ps[k]'(by rw [g1.1]; exact hk)) (List.getElem?_eq_getElem hk) (List.getElem?_eq_getElem (by rw [g1.1]; exact hk))
    exact ⟨a1.holds, a2, by omega⟩
theorem Span.wider (h : Span lo' hi' w w') (h1 : lo ≤ lo') (h2 : hi' ≤ hi) : Span lo hi w w' := ⟨h.os, h.tape, h.output, h.size, fun k hk hd => h.block k hk (by omega)⟩
theorem Span.cell (h : Span lo hi w w') {p : Addr} (hl : p.block < w.heap.size) (hg : p.block < lo ∨ hi ≤ p.block) : w'.cell? p = w.cell? p := by
  unfold World.cell?
  rw [h.block p.block hl hg]
theorem Span.freeRows (h : Span lo hi w w') (hf : FreeRows w ps rs) (hd : ∀ p ∈ ps, p.2 ≤ lo ∨ hi ≤ p.1) : FreeRows w' ps rs :=
  ⟨hf.1, fun k r p hr hp => ⟨h.fresh (hf.2.1 k r p hr hp).1 (hd p (List.mem_of_getElem? hp)), (hf.2.1 k r p hr hp).2⟩, hf.2.2⟩
theorem Span.freeGrid (h : Span lo hi w w') (hf : FreeGrid w lo' hi' A rs) (hd : hi' ≤ lo ∨ hi ≤ lo') : FreeGrid w' lo' hi' A rs := by
  obtain ⟨ps, g1, g2, g3⟩ := hf
  refine ⟨ps, h.freeRows g1 (fun p hp => by have := g2 p hp; omega), g2, ?_⟩
  rcases g3 with g3 | ⟨b, o, hA, hl, k1, k2, hdd, hc⟩
  · exact .inl g3
  · exact .inr ⟨b, o, hA, Nat.lt_of_lt_of_le hl h.size, k1, k2, hdd, fun j u hu => (h.cell (p := ⟨b, o + j, none⟩) hl (by show b < lo ∨ hi ≤ b; omega)).trans (hc j u hu)⟩
/-- Behind a row that has turned: the others stand as they were. -/
theorem FreeRows.turn (h : FreeRows w ps rs) {k : Nat} {r : RowV} {p : Nat × Nat} (hr : rs[k]? = some r) (hp : ps[k]? = some p) (hs : Span p.1 p.2 w w') {ys : List Int} (hf : Fresh w' p.1 p.2 3 r.A (nums ys)) (hy : ys.length = r.n) : FreeRows w' ps (rs.set k (r.put ys)) := by
  refine ⟨by simp [h.1], fun i r' p' hi hp' => ?_, h.2.2⟩
  rw [List.getElem?_set] at hi
  by_cases he : k = i
  · subst he
    obtain rfl : p = p' := by rw [hp] at hp'; exact Option.some.inj hp'
    rw [if_pos rfl] at hi
    split at hi
    · obtain rfl := Option.some.inj hi
      exact ⟨hf, hy, (h.2.1 k r p hr hp).2.2⟩
    · cases hi
  · rw [if_neg he] at hi
    exact ⟨hs.fresh (h.2.1 i r' p' hi hp').1 (by have := h.2.2 i k p' p (fun e => he e.symm) hp' hp; omega), (h.2.1 i r' p' hi hp').2⟩
theorem FreeGrid.turn (h : FreeGrid w lo hi A rs) {k : Nat} (hk : k < rs.length) : ∃ a b, lo ≤ a ∧ b ≤ hi ∧ Fresh w a b 3 rs[k].A (nums rs[k].xs) ∧ rs[k].xs.length = rs[k].n ∧ rs[k].n ≤ 1048576 ∧
    ∀ w' ys, Span a b w w' → Fresh w' a b 3 rs[k].A (nums ys) → ys.length = rs[k].n → FreeGrid w' lo hi A (rs.set k (rs[k].put ys)) := by
  obtain ⟨ps, g1, g2, g3⟩ := h
  have hk' : k < ps.length := by rw [g1.1]; exact hk
  have e1 : rs[k]? = some rs[k] := List.getElem?_eq_getElem hk
  have e2 : ps[k]? = some ps[k] := List.getElem?_eq_getElem hk'
  have hb := g2 _ (List.getElem_mem hk')
  obtain ⟨f1, f2, f3⟩ := g1.2.1 k _ _ e1 e2
  refine ⟨ps[k].1, ps[k].2, hb.1, hb.2, f1, f2, f3, fun w' ys hs hf hy => ⟨ps, g1.turn e1 e2 hs hf hy, g2, ?_⟩⟩
  rcases g3 with g3 | ⟨b, o, hA, hl, k1, k2, hdd, hc⟩
  · subst g3; simp at hk
  · refine .inr ⟨b, o, hA, Nat.lt_of_lt_of_le hl hs.size, k1, k2, hdd, fun j u hu => (hs.cell (p := ⟨b, o + j, none⟩) hl (by have := hdd _ (List.getElem_mem hk'); show b < ps[k].1 ∨ ps[k].2 ≤ b; omega)).trans (hc j u ?_)⟩
    rw [← hu]
    simp only [rowVals, List.getElem?_map, List.getElem?_set]
    by_cases he : k = j
    · subst he
      rw [if_pos rfl, if_pos hk, e1]
      rfl
    · rw [if_neg he]
end
/-- The ranges of lists that lie one behind the other. -/
theorem OwnRows.free {w : World} : ∀ {rs : List RowV} {lo hi : Nat}, OwnRows w lo hi rs → ∃ ps, FreeRows w ps rs ∧ ∀ p ∈ ps, lo ≤ p.1 ∧ p.2 ≤ hi
  | [], _, _, _ => ⟨[], ⟨rfl, fun k r p hr => by simp at hr, fun i j p p' _ hi => by simp at hi⟩, fun p hp => by cases hp⟩
  | r :: rs, lo, hi, ⟨mid, h1, hf, hl, hn, h2⟩ => by
    obtain ⟨ps, g, hg⟩ := h2.free
    have hle := h2.le
    refine ⟨(lo, mid) :: ps, ⟨by simp [g.1], fun k r' p hr hp => ?_, fun i j p p' hij hi hj => ?_⟩, fun p hp => ?_⟩
    · cases k with
      | zero => simp only [List.getElem?_cons_zero, Option.some.injEq] at hr hp; subst hr hp; exact ⟨hf, hl, hn⟩
      | succ k => simp only [List.getElem?_cons_succ] at hr hp; exact g.2.1 k r' p hr hp
    · cases i with
      | zero =>
        cases j with
        | zero => exact absurd rfl hij
        | succ j =>
          simp only [List.getElem?_cons_zero, List.getElem?_cons_succ, Option.some.injEq] at hi hj
          subst hi
          exact .inl (hg p' (List.mem_of_getElem? hj)).1
      | succ i =>
        cases j with
        | zero =>
          simp only [List.getElem?_cons_zero, List.getElem?_cons_succ, Option.some.injEq] at hi hj
          subst hj
          exact .inr (hg p (List.mem_of_getElem? hi)).1
        | succ j =>
          simp only [List.getElem?_cons_succ] at hi hj
          exact g.2.2 i j p p' (by omega) hi hj
    · rcases List.mem_cons.1 hp with rfl | hp
      · exact ⟨Nat.le_refl _, hle⟩
      · exact ⟨Nat.le_trans h1 (hg p hp).1, (hg p hp).2⟩
theorem OwnGrid.free {w : World} {g hi : Nat} {rs : List RowV} (h : OwnGrid w g hi rs) : FreeGrid w g hi (some ⟨g, 0, none⟩) rs := by
  obtain ⟨ps, h1, h2⟩ := h.2.free
  refine ⟨ps, h1, fun p hp => ⟨by have := (h2 p hp).1; omega, (h2 p hp).2⟩, .inr ⟨g, 0, rfl, h.1.lt, Nat.le_refl _, h.2.le, fun p hp => .inl (h2 p hp).1, fun j u hu => ?_⟩⟩
  rw [Nat.zero_add, h.1.cell j]
  simpa using hu

theorem part_sum {rs : List RowV} : part rs rs.length = (rs.map RowV.n).sum := by simp [part]
theorem part_nums {w : World} {A B : Option Addr} {rs ss : List RowV} (hA : Grid w A rs) {w' : World} (hB : Grid w' B ss) (h : rowNums rs = rowNums ss) : part rs rs.length = part ss ss.length := by
  rw [part_sum, part_sum]
  have e : ∀ {u : World} {C : Option Addr} {ts : List RowV}, Grid u C ts → ts.map RowV.n = (rowNums ts).map List.length := by
    intro u C ts hC
    rw [rowNums, List.map_map]
    exact List.map_congr_left fun r hr => (hC.2 r hr).2.1.symm
  rw [e hA, e hB, h]
theorem part_total (rs : List RowV) : part rs rs.length ≤ total rs := by unfold total; omega

/-- The first k lists overwritten by a count from q on. -/
def markTo (q : Int) (rs : List RowV) (k : Nat) : List RowV := (List.range rs.length).map fun j => if j < k then (rs.getD j ⟨none, 0, 0, []⟩).put (marksI (q + part rs j) (rs.getD j ⟨none, 0, 0, []⟩).n) else rs.getD j ⟨none, 0, 0, []⟩
theorem markTo_len (q : Int) (rs : List RowV) (k : Nat) : (markTo q rs k).length = rs.length := by simp [markTo]
theorem markTo_zero (q : Int) (rs : List RowV) : markTo q rs 0 = rs := by
  apply List.ext_getElem
  · simp [markTo]
  · intro i h1 h2
    simp [markTo, h2]
theorem markTo_at (q : Int) (rs : List RowV) (k i : Nat) (h : i < (markTo q rs k).length) : (markTo q rs k)[i] = if i < k then (rs[i]'(by rw [markTo_len] at h; exact h)).put (marksI (q + part rs i) (rs[i]'(by rw [markTo_len] at h; exact h)).n) else rs[i]'(by rw [markTo_len] at h; exact h) := by
  have h' : i < rs.length := by rw [markTo_len] at h; exact h
  simp [markTo, h']
theorem markTo_here (q : Int) (rs : List RowV) (k : Nat) (h : k < (markTo q rs k).length) : (markTo q rs k)[k] = rs[k]'(by rw [markTo_len] at h; exact h) := by
  rw [markTo_at, if_neg (by omega)]
theorem markTo_next (q : Int) (rs : List RowV) {k : Nat} (h : k < rs.length) : (markTo q rs k).set k (rs[k].put (marksI (q + part rs k) rs[k].n)) = markTo q rs (k + 1) := by
  apply List.ext_getElem
  · simp [markTo_len]
  · intro i h1 h2
    rw [List.getElem_set]
    by_cases he : k = i
    · subst he
      rw [if_pos rfl, markTo_at, if_pos (by omega)]
    · rw [if_neg he, markTo_at, markTo_at]
      by_cases hi : i < k
      · rw [if_pos hi, if_pos (by omega)]
      · rw [if_neg hi, if_neg (by omega)]

set_option maxHeartbeats 800000 in
theorem markIntSS_any (A : Option Addr) (n c lo hi : Nat) (rs : List RowV) (q : Int) (w : World) (hf : FreeGrid w lo hi A rs) (hx : rs.length = n) (h0 : 0 ≤ q) (h1 : q ≤ 2305843009213693952) (hn : n ≤ 1048576) (hp : part rs rs.length ≤ 1048576) :
    Calls Try.prog 31 #[.slice A n c, .int .i64 q] w fun e w' => e = .returned (.int .i64 (q + (part rs rs.length : Nat))) ∧ Span lo hi w w' ∧ FreeGrid w' lo hi A (markTo q rs rs.length) := by
  have HX := Lib.hid hx
  have HM : Hid (FreeGrid w lo hi A (markTo q rs 0)) := by show FreeGrid _ _ _ _ _; rw [markTo_zero]; exact hf
  clear hx hf
  go_enter Try.func31, Try.ntmps31
  go_wp2
  go_loopw [1, 5] (fun v i wr => ∃ k : Nat, k ≤ n ∧ i = .int .i64 k ∧ v = .int .i64 (q + part rs k) ∧ FreeGrid wr lo hi A (markTo q rs k) ∧ Span lo hi w wr) (fun _ i _ => n - (intOf i).toNat)
  case atStart => exact ⟨0, Nat.zero_le _, rfl, by simp [part_zero], HM.out, Span.refl _ _ _⟩
  case round =>
    obtain ⟨k, hk, rfl, rfl, hm, hs⟩ := hrel
    clear HM
    by_cases hlt : k < n
    · have hkr : k < rs.length := by have := HX.out; omega
      have hkm : k < (markTo q rs k).length := by rw [markTo_len]; exact hkr
      obtain ⟨b, o, rfl, hb, hc, hok⟩ := hm.grid.look hkm
      obtain ⟨lo1, hi1, l1, l2, hf, hl, hs1, hturn⟩ := hm.turn hkm
      have hpl := part_le (rs := rs) (Nat.le_refl _) (j := k) (by omega)
      have hpn := part_next hkr
      have HPN := Lib.hid hpn
      have HT := Lib.hid hturn
      have HN := Lib.hid (markTo_next q rs hkr)
      have HF := Lib.hid hf
      have HL := Lib.hid hl
      have HE := Lib.hid (markTo_here q rs k hkm)
      rw [HE.out] at hc
      rw [HE.out] at hs1
      have HS := Lib.hid hs
      clear hm hf hl hturn hok hpn hs
      have hq0 : (0 : Int) ≤ q + part rs k := by omega
      have hq1 : q + (part rs k : Int) ≤ 4611686018427387904 := by omega
      go_wp2_with fail
      refine (markIntS_any rs[k].A rs[k].n _ lo1 hi1 (nums rs[k].xs) _ _ (by rw [← HE.out]; exact HF.out) (by rw [nums_len, ← HE.out]; exact HL.out) hq0 hq1 hs1).mono ?_
      rintro e w1 ⟨rfl, hs2, hf2⟩
      have hsz : Span lo hi w w1 := HS.out.trans (hs2.wider l1 l2)
      have HG : Hid (FreeGrid w1 lo hi (some ⟨b, o, none⟩) (markTo q rs (k + 1))) := by
        show FreeGrid _ _ _ _ _
        rw [← HN.out]
        have h := HT.out w1 (marksI (q + part rs k) rs[k].n) hs2 (by rw [HE.out]; exact hf2) (by rw [marksI_len, HE.out])
        rw [HE.out] at h
        exact h
      clear hs2 hf2 HT
      go_wp2
      go_roundw
      case rel => exact ⟨k + 1, by omega, by go_num, by rw [HPN.out]; first | exact congrArg _ (by omega) | (simp; omega), HG.out, hsz⟩
      case measure => simp [intOf]; omega
    · have hkn : k = rs.length := by have := HX.out; omega
      subst hkn
      go_wp2
      go_ret
      exact ⟨rfl, hs, hm⟩

set_option maxHeartbeats 800000 in
theorem heldIntSS_any (A : Option Addr) (n c : Nat) (rs : List RowV) (q : Int) (w : World) (hA : Grid w A (markTo q rs rs.length)) (hx : rs.length = n) (h0 : 0 ≤ q) (h1 : q ≤ 2305843009213693952) (hn : n ≤ 1048576) (hp : part rs rs.length ≤ 1048576) :
    Calls Try.prog 32 #[.slice A n c, .int .i64 q] w fun e w' => e = .returned (.int .i64 (q + (part rs rs.length : Nat))) ∧ Below w.heap.size w w' := by
  have HX := Lib.hid hx
  clear hx
  go_enter Try.func32, Try.ntmps32
  go_wp2
  go_loop [1, 5] (fun v i => ∃ k : Nat, k ≤ n ∧ i = .int .i64 k ∧ v = .int .i64 (q + part rs k)) (fun _ i => n - (intOf i).toNat)
  case atStart => exact ⟨0, Nat.zero_le _, rfl, by simp [part_zero]⟩
  case round =>
    obtain ⟨k, hk, rfl, rfl⟩ := hrel
    by_cases hlt : k < n
    · have hkr : k < rs.length := by have := HX.out; omega
      have hkm : k < (markTo q rs rs.length).length := by rw [markTo_len]; exact hkr
      obtain ⟨b, o, rfl, hb, hc, hok⟩ := hA.look hkm
      have he : (markTo q rs rs.length)[k] = (rs[k].put (marksI (q + part rs k) rs[k].n)) := by rw [markTo_at, if_pos hkr]
      rw [he] at hc hok
      have hpl := part_le (rs := rs) (Nat.le_refl _) (j := k + 1) (by omega)
      have hpn := part_next hkr
      have hs1 : rs[k].n ≤ 1048576 := by omega
      have HPN := Lib.hid hpn
      have HOK := Lib.hid hok.1
      have hq0 : (0 : Int) ≤ q + part rs k := by omega
      have hq1 : q + (part rs k : Int) ≤ 4611686018427387904 := by omega
      have hq2 : (0 : Int) ≤ q + part rs k + rs[k].n := by omega
      clear he hok hpn
      simp only [RowV.put] at hc
      go_wp2_with fail
      refine (heldIntS_any rs[k].A rs[k].n _ _ _ HOK.out hq0 hq1 hs1).mono ?_
      rintro e w1 ⟨rfl, rfl⟩
      go_wp2
      go_round
      case rel => exact ⟨k + 1, by omega, by go_num, by rw [HPN.out]; first | exact congrArg _ (by omega) | (simp; omega)⟩
      case measure => simp [intOf]; omega
    · have hkn : k = rs.length := by have := HX.out; omega
      subst hkn
      go_wp2
      go_ret
      exact ⟨rfl, Below.refl _ _⟩
end Go.Proofs.Ytkocompjjogciaa

namespace Go.Proofs.Ytkocompjjogciaa
open Go.RowKit


/-- A list of lists that the call makes and goes on with: its heads in a block of the call's own, each row in a range of blocks of its own, all from lo on. -/
def Heads (w : World) (lo : Nat) (A : Option Addr) (c : Nat) (rs : List RowV) : Prop :=
  w.ownsRow lo 22 1 (.slice A rs.length c) rs.length (rowVals rs) ∧
    ∃ ps, FreeRows w ps rs ∧ (∀ p ∈ ps, lo ≤ p.1 ∧ p.2 ≤ w.heap.size) ∧ ∀ a : Addr, A = some a → ∀ p ∈ ps, a.block < p.1 ∨ p.2 ≤ a.block
theorem Heads.nil (w : World) (lo : Nat) : Heads w lo none 0 [] :=
  ⟨World.ownsRow_nil _ _ _ _, [], ⟨rfl, fun k r p h => by simp at h, fun i j p p' _ h => by simp at h⟩, fun p h => by simp at h, fun a h => by cases h⟩
theorem own_keep {w w' : World} {base : Nat} {e : TypeId} {size : Nat} {v : Value} {n : Nat} {xs : List Value} (h : w.ownsRow base e size v n xs) (hb : Below w.heap.size w w') : w'.ownsRow base e size v n xs := by
  obtain ⟨hl, h | ⟨g, cap, cur, hv, hg, hh, r⟩⟩ := h
  · exact ⟨hl, .inl h⟩
  · exact ⟨hl, .inr ⟨g, cap, cur, hv, hg, (hb.block g (Array.getElem?_eq_some_iff.1 hh).1).trans hh, r⟩⟩
theorem Heads.below {w w' : World} {lo c : Nat} {A : Option Addr} {rs : List RowV} (h : Heads w lo A c rs) (hb : Below w.heap.size w w') : Heads w' lo A c rs := by
  obtain ⟨h1, ps, h2, h3, h4⟩ := h
  exact ⟨own_keep h1 hb, ps, h2.below hb, fun p hp => ⟨(h3 p hp).1, Nat.le_trans (h3 p hp).2 hb.size⟩, h4⟩
theorem Heads.alloc {w : World} {lo c : Nat} {A : Option Addr} {rs : List RowV} (h : Heads w lo A c rs) (o : Obj) : Heads (w.alloc o) lo A c rs := h.below (below1 w o)
theorem fresh_grown {w w' : World} {lo hi : Nat} {ty : TypeId} {A : Option Addr} {xs : List Value} {row : Option Nat} (hf : Fresh w lo hi ty A xs) (hg : w.grownBy w' row) (hd : ∀ g, row = some g → g < lo ∨ hi ≤ g) : Fresh w' lo hi ty A xs := by
  rcases hf with h | ⟨g, cs, hA, h1, h2, hw, h3, h4⟩
  · exact .inl h
  · refine .inr ⟨g, cs, hA, h1, h2, ?_, h3, h4⟩
    exact (hg.block g hw.lt (fun e => by have := hd g e.symm; omega)).trans hw
/-- A row more. -/
theorem Heads.push {w w1 w2 : World} {lo c cap g : Nat} {A : Option Addr} {rs : List RowV} {r : RowV} (h : Heads w lo A c rs) (hlo : lo ≤ w.heap.size) (hb : Below w.heap.size w w1) (hr : Fresh w1 w.heap.size w1.heap.size 3 r.A (nums r.xs)) (hl : r.xs.length = r.n) (hn : r.n ≤ 1048576)
    (hown : w2.ownsRow lo 22 1 (.slice (some ⟨g, 0, none⟩) (rs.length + 1) cap) (rs.length + 1) (rowVals rs ++ [r.val])) (hg : (w1.alloc (.cells #[r.val] 22)).grownBy w2 (Value.slice A rs.length c).ownBlock)
    (hat : (Value.slice A rs.length c).ownBlock = some g ∨ g = w1.heap.size + 1) : Heads w2 lo (some ⟨g, 0, none⟩) cap (rs ++ [r]) := by
  obtain ⟨h1, ps, ⟨k1, k2, k3⟩, h3, h4⟩ := h
  have hsz := hb.size
  have hsg : w1.heap.size + 1 ≤ w2.heap.size := by have := hg.size; simpa using this
  have hob : ∀ q, (Value.slice A rs.length c).ownBlock = some q → ∃ a : Addr, A = some a ∧ a.block = q ∧ q < w.heap.size := by
    intro q hq
    cases A with
    | none => simp [Value.ownBlock] at hq
    | some a => exact ⟨a, rfl, by simpa [Value.ownBlock] using hq, (h1.lt q hq).2⟩
  refine ⟨by rw [List.length_append]; show World.ownsRow _ _ _ _ _ _ _; simpa [rowVals] using hown, ps ++ [(w.heap.size, w1.heap.size)], ⟨by simp [k1], ?_, ?_⟩, ?_, ?_⟩
  · intro k r' p' hr' hp'
    rcases Nat.lt_or_ge k rs.length with hk | hk
    · rw [List.getElem?_append_left hk] at hr'
      rw [List.getElem?_append_left (by omega)] at hp'
      obtain ⟨f1, f2⟩ := k2 k r' p' hr' hp'
      have hm := List.mem_of_getElem? hp'
      refine ⟨fresh_grown ((f1.below hb).alloc _) hg fun q hq => ?_, f2⟩
      obtain ⟨a, hA, hq2, -⟩ := hob q hq
      have := h4 a hA p' hm
      omega
    · have hke : k = rs.length := by
        have := (List.getElem?_eq_some_iff.1 hr').1
        simp at this
        omega
      subst hke
      rw [List.getElem?_append_right (Nat.le_refl _)] at hr'
      rw [List.getElem?_append_right (by omega), k1] at hp'
      simp at hr' hp'
      subst hr' hp'
      exact ⟨fresh_grown (hr.alloc _) hg fun q hq => by obtain ⟨a, -, -, hlt⟩ := hob q hq; exact .inl hlt, hl, hn⟩
  · intro i j p p' hij hp hp'
    have hlen : ∀ {i : Nat} {p : Nat × Nat}, (ps ++ [(w.heap.size, w1.heap.size)])[i]? = some p → (i < ps.length ∧ ps[i]? = some p) ∨ (i = ps.length ∧ p = (w.heap.size, w1.heap.size)) := by
      intro i p hp
      rcases Nat.lt_or_ge i ps.length with hi | hi
      · rw [List.getElem?_append_left hi] at hp
        exact .inl ⟨hi, hp⟩
      · have hie : i = ps.length := by
          have := (List.getElem?_eq_some_iff.1 hp).1
          simp at this
          omega
        subst hie
        rw [List.getElem?_append_right (Nat.le_refl _)] at hp
        simp at hp
        exact .inr ⟨rfl, hp.symm⟩
    rcases hlen hp with ⟨hi, hp⟩ | ⟨hi, rfl⟩ <;> rcases hlen hp' with ⟨hj, hp'⟩ | ⟨hj, rfl⟩
    · exact k3 i j p p' hij hp hp'
    · exact .inl (h3 p (List.mem_of_getElem? hp)).2
    · exact .inr (h3 p' (List.mem_of_getElem? hp')).2
    · omega
  · intro p hp
    rcases List.mem_append.1 hp with hp | hp
    · exact ⟨(h3 p hp).1, by have := (h3 p hp).2; omega⟩
    · simp only [List.mem_singleton] at hp
      subst hp
      exact ⟨hlo, by show w1.heap.size ≤ _; omega⟩
  · intro a ha p hp
    obtain rfl : (⟨g, 0, none⟩ : Addr) = a := Option.some.inj ha
    show g < p.1 ∨ p.2 ≤ g
    rcases List.mem_append.1 hp with hp | hp
    · rcases hat with hat | hat
      · obtain ⟨a, hA, hq2, -⟩ := hob g hat
        have := h4 a hA p hp
        omega
      · have := (h3 p hp).2
        omega
    · simp only [List.mem_singleton] at hp
      subst hp
      show g < w.heap.size ∨ w1.heap.size ≤ g
      rcases hat with hat | hat
      · obtain ⟨-, -, -, hlt⟩ := hob g hat
        exact .inl hlt
      · omega
/-- What was made is the call's own, all of it. -/
theorem Heads.free {w : World} {lo c : Nat} {A : Option Addr} {rs : List RowV} (h : Heads w lo A c rs) : FreeGrid w lo w.heap.size A rs := by
  obtain ⟨h1, ps, h2, h3, h4⟩ := h
  refine ⟨ps, h2, h3, ?_⟩
  rcases own_some h1 with ⟨rfl, hn, -⟩ | ⟨g, rfl, -⟩
  · exact .inl (List.length_eq_zero_iff.1 hn)
  · obtain ⟨-, ⟨hv, -⟩ | ⟨g', cap, cur, hv, hb, hh, -, -, -, ht⟩⟩ := h1
    · simp at hv
    · obtain ⟨rfl, -⟩ : g = g' ∧ c = cap := by simpa using hv
      have hlt := (Array.getElem?_eq_some_iff.1 hh).1
      refine .inr ⟨g, 0, rfl, hlt, hb, hlt, fun p hp => h4 _ rfl p hp, fun j u hu => ?_⟩
      rw [Nat.zero_add, (show Whole w g 22 cur from hh).cell j]
      rw [← ht, List.getElem?_take] at hu
      split at hu
      · simpa using hu
      · simp at hu
/-- What a call hands back that makes a list of lists. -/
def RowsPost (ls : List (List Int)) (w : World) (e : Ending) (w' : World) : Prop :=
  ∃ (A : Option Addr) (c : Nat) (rs : List RowV), e = .returned (.slice A rs.length c) ∧ rowNums rs = ls ∧ FreeGrid w' w.heap.size w'.heap.size A rs ∧ Below w.heap.size w w'
end Go.Proofs.Ytkocompjjogciaa

namespace Go.Proofs.Ytkocompjjogciaa
open Go.RowKit

/-- What a call hands back that makes a list of lists and tells whether it did. -/
def BackPost (ls : List (List Int)) (ok : Bool) (w : World) (e : Ending) (w' : World) : Prop :=
  ∃ (A : Option Addr) (n c : Nat) (rs : List RowV), e = .returned (.tuple #[.slice A n c, .bool ok]) ∧ rowNums rs = ls ∧ rs.length = n ∧ FreeGrid w' w.heap.size w'.heap.size A rs ∧ Below w.heap.size w w'
theorem BackPost.no {w w' : World} (h : Below w.heap.size w w') : BackPost [] false w (.returned (.tuple #[.slice none 0 0, .bool false])) w' :=
  ⟨none, 0, 0, [], rfl, rfl, rfl, (Heads.nil w' w.heap.size).free, h⟩
theorem part_lens {w : World} {A : Option Addr} {rs : List RowV} (h : Grid w A rs) : part rs rs.length = ((rowNums rs).map List.length).sum := by
  rw [part_sum]
  have : ∀ ts : List RowV, (∀ r ∈ ts, r.xs.length = r.n) → ts.map RowV.n = (rowNums ts).map List.length := by
    intro ts ht
    simp only [rowNums, List.map_map]
    exact List.map_congr_left fun r hr => (ht r hr).symm
  rw [this rs fun r hr => (h.2 r hr).2.1]
theorem sum_lens {ls : List (List Int)} {k : Nat} (h : ∀ l ∈ ls, l.length ≤ k) : (ls.map List.length).sum ≤ k * ls.length := by
  induction ls with
  | nil => simp
  | cons l ls ih =>
    have h1 := h l (by simp)
    have h2 := ih fun x hx => h x (List.mem_cons_of_mem _ hx)
    rw [List.map_cons, List.sum_cons, List.length_cons, Nat.mul_succ]
    omega
end Go.Proofs.Ytkocompjjogciaa

namespace Go.Proofs.Ytkocompjjogciaa
open Go.RowKit

/-- The rising lists of at most m that begin with b and go on with some of the others, at least one of them; each ahead of those that it begins. -/
def subs (m : Nat) : List Int → List Int → List (List Int)
  | [], _ => []
  | k :: r, b => if m ≤ b.length then [] else ((b ++ [k]) :: subs m r (b ++ [k])) ++ subs m r b
theorem subs_full {m : Nat} {b : List Int} (h : m ≤ b.length) : ∀ o : List Int, subs m o b = []
  | [] => rfl
  | _ :: _ => if_pos h
theorem subs_next {m : Nat} {b o : List Int} {i : Nat} (hi : i < o.length) (h : b.length < m) : subs m (o.drop i) b = ((b ++ [o[i]]) :: subs m (o.drop (i + 1)) (b ++ [o[i]])) ++ subs m (o.drop (i + 1)) b := by
  rw [List.drop_eq_getElem_cons hi, subs, if_neg (by omega)]
theorem subs_len (m : Nat) : ∀ (o b : List Int), (subs m o b).length + 1 ≤ 2 ^ o.length
  | [], _ => by simp [subs]
  | k :: r, b => by
    have h1 := subs_len m r (b ++ [k])
    have h2 := subs_len m r b
    rw [subs, List.length_cons, Nat.pow_succ]
    split
    · have : 0 < 2 ^ r.length := Nat.pos_of_ne_zero (by simp)
      simp
      omega
    · simp only [List.length_append, List.length_cons]
      omega
theorem subs_small {m : Nat} {o b : List Int} (h : o.length ≤ 8) : (subs m o b).length ≤ 255 := by
  have h1 := subs_len m o b
  have h2 : 2 ^ o.length ≤ 2 ^ 8 := Nat.pow_le_pow_right (by omega) h
  omega

theorem subs_mem (m : Nat) : ∀ (o b l : List Int), l ∈ subs m o b ↔ ∃ c, l = b ++ c ∧ c ≠ [] ∧ c.Sublist o ∧ l.length ≤ m := by
  intro o
  induction o with
  | nil =>
    intro b l
    constructor
    · intro h
      simp [subs] at h
    · rintro ⟨c, -, hne, hs, -⟩
      exact absurd (List.sublist_nil.1 hs) hne
  | cons k r ih =>
    intro b l
    rw [subs]
    by_cases hm : m ≤ b.length
    · rw [if_pos hm]
      constructor
      · intro h
        simp at h
      · rintro ⟨c, rfl, hne, -, hl⟩
        have : 0 < c.length := List.length_pos_iff.2 hne
        rw [List.length_append] at hl
        omega
    · rw [if_neg hm, List.mem_append, List.mem_cons, ih, ih]
      constructor
      · rintro ((rfl | ⟨c, rfl, hne, hs, hl⟩) | ⟨c, rfl, hne, hs, hl⟩)
        · refine ⟨[k], rfl, by simp, ?_, by simp; omega⟩
          exact (List.nil_sublist r).cons_cons k
        · refine ⟨k :: c, by simp, by simp, hs.cons_cons k, hl⟩
        · exact ⟨c, rfl, hne, hs.cons k, hl⟩
      · rintro ⟨c, rfl, hne, hs, hl⟩
        cases hs with
        | cons _ h => exact .inr ⟨c, rfl, hne, h, hl⟩
        | cons_cons _ h =>
          rename_i c'
          by_cases hc : c' = []
          · subst hc
            exact .inl (.inl rfl)
          · exact .inl (.inr ⟨c', by simp, hc, h, hl⟩)

theorem FreeRows.grown {w w' : World} {ps : List (Nat × Nat)} {rs : List RowV} {row : Option Nat} (h : FreeRows w ps rs) (hg : w.grownBy w' row) (hd : ∀ g, row = some g → ∀ p ∈ ps, g < p.1 ∨ p.2 ≤ g) : FreeRows w' ps rs :=
  ⟨h.1, fun k r p hr hp => ⟨fresh_grown (h.2.1 k r p hr hp).1 hg (fun g e => hd g e p (List.mem_of_getElem? hp)), (h.2.1 k r p hr hp).2⟩, h.2.2⟩
theorem FreeRows.join {w : World} {ps qs : List (Nat × Nat)} {rs ss : List RowV} (h : FreeRows w ps rs) (h' : FreeRows w qs ss) (hd : ∀ p ∈ ps, ∀ q ∈ qs, p.2 ≤ q.1) : FreeRows w (ps ++ qs) (rs ++ ss) := by
  obtain ⟨a1, a2, a3⟩ := h
  obtain ⟨b1, b2, b3⟩ := h'
  refine ⟨by simp [a1, b1], fun k r p hr hp => ?_, fun i j p p' hij hp hp' => ?_⟩
  · rcases Nat.lt_or_ge k rs.length with hk | hk
    · rw [List.getElem?_append_left hk] at hr
      rw [List.getElem?_append_left (by omega)] at hp
      exact a2 k r p hr hp
    · rw [List.getElem?_append_right hk] at hr
      rw [List.getElem?_append_right (by omega), a1] at hp
      exact b2 _ r p hr hp
  · rcases Nat.lt_or_ge i ps.length with hi | hi <;> rcases Nat.lt_or_ge j ps.length with hj | hj
    · rw [List.getElem?_append_left hi] at hp
      rw [List.getElem?_append_left hj] at hp'
      exact a3 i j p p' hij hp hp'
    · rw [List.getElem?_append_left hi] at hp
      rw [List.getElem?_append_right hj] at hp'
      exact .inl (hd p (List.mem_of_getElem? hp) p' (List.mem_of_getElem? hp'))
    · rw [List.getElem?_append_right hi] at hp
      rw [List.getElem?_append_left hj] at hp'
      exact .inr (hd p' (List.mem_of_getElem? hp') p (List.mem_of_getElem? hp))
    · rw [List.getElem?_append_right hi] at hp
      rw [List.getElem?_append_right hj] at hp'
      exact b3 _ _ p p' (by omega) hp hp'
/-- Lists of lists put behind others, both made by the call. -/
theorem Heads.join {w w1 w2 : World} {lo c d cap g : Nat} {A B : Option Addr} {rs ss : List RowV} (h : Heads w lo A c rs) (hlo : lo ≤ w.heap.size) (hb : Below w.heap.size w w1) (h' : Heads w1 w.heap.size B d ss)
    (hown : w2.ownsRow lo 22 1 (.slice (some ⟨g, 0, none⟩) (rs.length + ss.length) cap) (rs.length + ss.length) (rowVals rs ++ rowVals ss)) (hg : w1.grownBy w2 (Value.slice A rs.length c).ownBlock)
    (hat : (Value.slice A rs.length c).ownBlock = some g ∨ g = w1.heap.size) : Heads w2 lo (some ⟨g, 0, none⟩) cap (rs ++ ss) := by
  obtain ⟨h1, ps, h2, h3, h4⟩ := h
  obtain ⟨-, qs, k2, k3, -⟩ := h'
  have hsz := hb.size
  have hsg := hg.size
  have hob : ∀ q, (Value.slice A rs.length c).ownBlock = some q → ∃ a : Addr, A = some a ∧ a.block = q ∧ q < w.heap.size := by
    intro q hq
    cases A with
    | none => simp [Value.ownBlock] at hq
    | some a => exact ⟨a, rfl, by simpa [Value.ownBlock] using hq, (h1.lt q hq).2⟩
  refine ⟨by rw [List.length_append]; show World.ownsRow _ _ _ _ _ _ _; simpa [rowVals] using hown, ps ++ qs, ?_, ?_, ?_⟩
  · refine (FreeRows.join (h2.below hb) k2 fun p hp q hq => ?_).grown hg ?_
    · have := (h3 p hp).2; have := (k3 q hq).1; omega
    · intro q hq p hp
      obtain ⟨a, hA, hq2, hl⟩ := hob q hq
      rcases List.mem_append.1 hp with hp | hp
      · have := h4 a hA p hp; omega
      · have := (k3 p hp).1; omega
  · intro p hp
    rcases List.mem_append.1 hp with hp | hp
    · exact ⟨(h3 p hp).1, by have := (h3 p hp).2; omega⟩
    · exact ⟨by have := (k3 p hp).1; omega, by have := (k3 p hp).2; omega⟩
  · intro a ha p hp
    obtain rfl : (⟨g, 0, none⟩ : Addr) = a := Option.some.inj ha
    show g < p.1 ∨ p.2 ≤ g
    rcases List.mem_append.1 hp with hp | hp
    · rcases hat with hat | hat
      · obtain ⟨a, hA, hq2, -⟩ := hob g hat
        have := h4 a hA p hp
        omega
      · have := (h3 p hp).2
        omega
    · rcases hat with hat | hat
      · obtain ⟨a, hA, hq2, hl⟩ := hob g hat
        have := (k3 p hp).1
        omega
      · have := (k3 p hp).2
        omega
theorem Heads.raise {w : World} {lo lo' c : Nat} {A : Option Addr} {rs : List RowV} (h : Heads w lo A c rs) (hl : lo' ≤ lo) : Heads w lo' A c rs := by
  obtain ⟨h1, ps, h2, h3, h4⟩ := h
  refine ⟨?_, ps, h2, fun p hp => ⟨Nat.le_trans hl (h3 p hp).1, (h3 p hp).2⟩, h4⟩
  obtain ⟨hn, h | ⟨g, cap, cur, hv, hg, r⟩⟩ := h1
  · exact ⟨hn, .inl h⟩
  · exact ⟨hn, .inr ⟨g, cap, cur, hv, Nat.le_trans hl hg, r⟩⟩
/-- What a call hands back that makes a list of lists to which more can be appended. -/
def SubsPost (ls : List (List Int)) (w : World) (e : Ending) (w' : World) : Prop :=
  ∃ (A : Option Addr) (c : Nat) (rs : List RowV), e = .returned (.slice A rs.length c) ∧ rowNums rs = ls ∧ (A = none → rs = [] ∧ c = 0) ∧ (∀ a, A = some a → a = ⟨a.block, 0, none⟩ ∧ 0 < rs.length) ∧ Heads w' w.heap.size A c rs ∧ Below w.heap.size w w'
end Go.Proofs.Ytkocompjjogciaa

namespace Go.Proofs.Ytkocompjjogciaa
open Go.RowKit

/-- slices.Clone of a list, to which more can be appended. -/
def OwnOr (xs : List Int) (w : World) (e : Ending) (w' : World) : Prop :=
  ∃ (A : Option Addr) (c : Nat), e = .returned (.slice A xs.length c) ∧ w'.ownsRow w.heap.size 3 1 (.slice A xs.length c) xs.length (nums xs) ∧ Below w.heap.size w w'

set_option maxHeartbeats 800000 in
set_option maxRecDepth 100000 in
theorem cloneO_any (A : Option Addr) (n d : Nat) (bs : List Int) (w : World) (hB : Holds w A (nums bs)) (hy : bs.length = n) (hn : n ≤ 1048576) (hnil : A = none → n = 0 ∧ d = 0) :
    Calls Try.prog 158 #[.slice A n d] w (OwnOr bs w) := by
  subst hy
  cases A with
  | none =>
    obtain ⟨h0, rfl⟩ := hnil rfl
    obtain rfl := List.length_eq_zero_iff.1 h0
    clear h0
    go_enter Try.func158, Try.ntmps158
    have hnl := fun (W : World) => Lib.run_eql_slice_nil (P := Try.prog) W 22 3 none 0 0 0 0 Try.underlying22
    go_wp2
    go_ret
    exact ⟨none, 0, rfl, World.ownsRow_nil _ _ _ _, Below.refl _ _⟩
  | some ad =>
    obtain ⟨b, o, had⟩ : ∃ b o, (nums bs = [] ∨ ad = ⟨b, o, none⟩) := by
      rcases hB with h | ⟨b, o, h, -, -⟩
      · exact ⟨0, 0, .inl h⟩
      · exact ⟨b, o, .inr (Option.some.inj h)⟩
    obtain ⟨i0, hi, hz0, hz1, hz2⟩ := info_parts info_int
    have HI := Lib.hid hi
    have HZ0 := Lib.hid hz0
    have HZ1 := Lib.hid hz1
    have HZ2 := Lib.hid hz2
    have hnews : ∀ j u, (nums bs)[j]? = some u → (w.alloc (.cells #[] 3)).cell? (ad.add j) = some u := fun j u hu => by
      rcases hB with h | ⟨b, o, h, hb, hcell⟩
      · rw [h] at hu; simp at hu
      · obtain rfl : ad = ⟨b, o, none⟩ := by simpa using h
        rw [show (⟨b, o, none⟩ : Addr).add j = ⟨b, o + j, none⟩ from by unfold Addr.add; split <;> simp_all, World.cell?_alloc_lt _ _ _ hb]
        exact hcell j u hu
    clear hi hz0 hz1 hz2 had hnil
    go_enter Try.func158, Try.ntmps158
    have hnl := fun (W : World) => Lib.run_eql_slice_nil (P := Try.prog) W 22 3 (some ad) bs.length d 0 0 Try.underlying22
    have HOWN := Lib.hid (World.ownsRow_made (base := w.heap.size) (e := 3) (size := 1) w #[] 0 (Nat.le_refl _) (by unfold maxLen; omega) rfl)
    have HNEWS := Lib.hid hnews
    have HLEN := Lib.hid (show (nums bs).length = bs.length * 1 by rw [nums_len, Nat.mul_one])
    have HONE := Lib.hid (ints_one bs)
    have HMAX := Lib.hid (show 0 + bs.length ≤ maxLen by unfold maxLen; omega)
    have HBYT := Lib.hid (show (0 + bs.length) * 8 ≤ 140737488355328 by omega)
    clear hnews
    go_wp2_with (at_builtin; refine wpList_append_own _ rfl (.tmp 5) (.tmp 6) 22 rfl w.heap.size 3 i0 (.int .i64 0) 1 8 Try.underlying22 HI.out HZ0.out HZ1.out HZ2.out rfl (by decide) _ 0 [] rfl HOWN.out ad bs.length d (nums bs) rfl HLEN.out HNEWS.out HONE.out HMAX.out HBYT.out (by simp) ?_; intro v' w1 hown1 hg1 _)
    go_ret
    simp only [Nat.zero_add, List.nil_append] at hown1
    have hbe := (below1 w (.cells #[] 3)).grown hg1 (by simp) (fun k hk => Nat.le_of_eq (Option.some.inj (show some w.heap.size = some k from hk)))
    obtain ⟨A1, c1, rfl⟩ := own_shape hown1
    exact ⟨A1, c1, rfl, hown1, hbe⟩

/-- Where the list behind a place lies, nil or not: at the list's own address where no room is left behind that place. -/
theorem behind_at {w : World} {A : Option Addr} {n c k : Nat} {xs : List Int} (h : Holds w A (nums xs)) (hx : xs.length = n) (hn : n ≤ c) (hk : k < n) :
    ∃ b o d, A = some ⟨b, o, none⟩ ∧ b < w.heap.size ∧ (if c = k + 1 then some (⟨b, o, none⟩ : Addr) else some ⟨b, o + (k + 1), none⟩) = some ⟨b, d, none⟩ ∧ Holds w (some ⟨b, d, none⟩) (nums (xs.drop (k + 1))) := by
  rcases h with h | ⟨b, o, rfl, hb, hc⟩
  · have := congrArg List.length h
    rw [nums_len, List.length_nil] at this
    omega
  · obtain ⟨d, hd, hh⟩ := tail_at (w := w) (b := b) (o := o) (n := n) (c := c) (k := k) (xs := xs) hc hx hn
    exact ⟨b, o, d, rfl, hb, hd, .inr ⟨b, d, rfl, hb, hh.out⟩⟩

theorem holds_of_own {w : World} {base : Nat} {e : TypeId} {A : Option Addr} {n c : Nat} {xs : List Value} (h : w.ownsRow base e 1 (.slice A n c) n xs) : Holds w A xs := by
  obtain ⟨A', c', hv, hf⟩ := Fresh.of_own h (Nat.le_refl _)
  obtain ⟨rfl, -⟩ : A = A' ∧ c = c' := by simpa using hv
  exact hf.holds

theorem rowVals_one (rs : List RowV) : ∀ u ∈ rowVals rs, u.oneCell' = true := by
  intro v hv
  simp only [rowVals, List.mem_map] at hv
  obtain ⟨x, -, rfl⟩ := hv
  rfl
theorem own_fresh0' {w : World} {lo n c : Nat} {ty : TypeId} {A : Option Addr} {xs : List Value} (h : w.ownsRow lo ty 1 (.slice A n c) n xs) : Fresh w lo w.heap.size ty A xs := by
  obtain ⟨A', c', hv, hf⟩ := Fresh.of_own h (Nat.le_refl _)
  obtain ⟨rfl, -⟩ : A = A' ∧ c = c' := by simpa using hv
  exact hf

set_option maxHeartbeats 6400000 in
set_option maxRecDepth 100000 in
theorem listsFrom_any (m : Nat) (hm : m ≤ 8) : ∀ (g : Nat) (A B : Option Addr) (k z n c : Nat) (bs os : List Int) (w : World), os.length < g → g ≤ 9 → Holds w A (nums bs) → Holds w B (nums os) → bs.length = k → os.length = n → n ≤ c → (A = none → k = 0 ∧ z = 0) →
    Calls Try.prog 188 #[.slice A k z, .slice B n c, .int .i64 m] w (SubsPost (subs m os bs) w) := by
  intro g
  induction g with
  | zero => intro A B k z n c bs os w hg; omega
  | succ g ih =>
    intro A B k z n c bs os w hg hg8 hA hB hk hn hc hnil
    by_cases hfull : m ≤ k
    · have HS := Lib.hid (subs_full (by omega : m ≤ bs.length) os)
      have hge : (m : Int) ≤ (k : Int) := by omega
      clear ih hg hk hn hnil
      go_enter Try.func188, Try.ntmps188
      go_wp2
      go_ret
      rw [HS.out]
      exact ⟨none, 0, [], rfl, rfl, fun _ => ⟨rfl, rfl⟩, fun a h => (by cases h), Heads.nil _ _, Below.refl _ _⟩
    · obtain ⟨i0, hi, hz0, hz1, hz2⟩ := info_parts info_int
      have HI := Lib.hid hi
      have HZ0 := Lib.hid hz0
      have HZ1 := Lib.hid hz1
      have HZ2 := Lib.hid hz2
      obtain ⟨i1, ri, rz0, rz1, rz2⟩ := info_parts info_row
      have RI := Lib.hid ri
      have RZ0 := Lib.hid rz0
      have RZ1 := Lib.hid rz1
      have RZ2 := Lib.hid rz2
      have HK := Lib.hid hk
      have HN := Lib.hid hn
      have HG := Lib.hid hg
      have HNIL := Lib.hid hnil
      have HFU := Lib.hid hfull
      have hk8 : k ≤ 8 := by omega
      have hfd : decide (m ≤ k) = false := by simpa using hfull
      have hn8 : n ≤ 8 := by omega
      clear hi hz0 hz1 hz2 ri rz0 rz1 rz2 hk hn hg hnil hfull
      go_enter Try.func188, Try.ntmps188
      go_wp2
      go_loopw [7, 17] (fun v i wr => ∃ (j : Nat) (E : Option Addr) (d : Nat) (acc : List RowV), j ≤ n ∧ i = .int .i64 j ∧ v = .slice E acc.length d ∧ rowNums acc ++ subs m (os.drop j) bs = subs m os bs ∧ (E = none → acc = [] ∧ d = 0) ∧ (∀ a, E = some a → a = ⟨a.block, 0, none⟩ ∧ 0 < acc.length) ∧ Heads wr w.heap.size E d acc ∧ Below w.heap.size w wr) (fun _ i _ => n - (intOf i).toNat)
      case atStart => exact ⟨0, none, 0, [], Nat.zero_le _, rfl, rfl, rfl, fun _ => ⟨rfl, rfl⟩, fun a h => (by cases h), Heads.nil _ _, Below.refl _ _⟩
      case round =>
        obtain ⟨j, E, d, acc, hj, rfl, rfl, hacc, hEn, hEs, hh, hb⟩ := hrel
        by_cases hjn : j < n
        · have hjl : j < os.length := by have := HN.out; omega
          obtain ⟨b0, o0, d0, rfl, hbl, hd0, hrest⟩ := behind_at hB HN.out hc hjn
          obtain ⟨b1, o1, hab, hbl1, hcell⟩ := (hB.below hb).look (k := j) (by rw [nums_len]; exact hjl)
          obtain ⟨rfl, rfl⟩ : b0 = b1 ∧ o0 = o1 := by simpa using hab
          clear hab hbl1
          simp only [nums, List.getElem_map] at hcell
          have hkb : bs.length < m := by have := HK.out; have := HFU.out; omega
          have HNX : Hid (rowNums acc ++ ((bs ++ [os[j]]) :: subs m (os.drop (j + 1)) (bs ++ [os[j]])) ++ subs m (os.drop (j + 1)) bs = subs m os bs) := by show _ = _; rw [List.append_assoc, ← subs_next hjl hkb]; exact hacc
          have HAL : Hid (acc.length + (1 + (subs m (os.drop (j + 1)) (bs ++ [os[j]])).length) ≤ 255) := by
            have h1 := congrArg List.length HNX.out
            have h2 := subs_small (m := m) (o := os) (b := bs) (by have := HN.out; omega)
            simp only [List.length_append, List.length_cons, rowNums_len] at h1
            show _ ≤ _
            omega
          have HH := Lib.hid hh
          have HB := Lib.hid hb
          have HRE := Lib.hid hrest
          have hbs : w.heap.size ≤ wr.heap.size := hb.size
          have hA1 := hA.below hb
          generalize hx : os[j] = x at hcell HNX HAL
          clear hacc hEn hEs hh hb hrest hx
          go_wp2_with fail
          refine (cloneO_any A k z bs _ hA1 HK.out (by omega) HNIL.out).mono ?_
          rintro e w1 ⟨A1, c1, rfl, hown1, hb1⟩
          rw [HK.out] at hown1 ⊢
          have hs1 : wr.heap.size ≤ w1.heap.size := hb1.size
          have HO1 := Lib.hid (hown1.alloc (.cells #[.int .i64 x] 3))
          have HB1 := Lib.hid hb1
          have HM1 := Lib.hid (show k + 1 ≤ maxLen by unfold maxLen; omega)
          have HY1 := Lib.hid (show (k + 1) * 8 ≤ 140737488355328 by omega)
          have HZ1' := Lib.hid (show wr.heap.size ≤ (w1.alloc (.cells #[.int .i64 x] 3)).heap.size by simp; omega)
          clear hown1 hb1
          go_upto_region 8 with (at_builtin; refine wpList_append_lies _ rfl (.tmp 23) (.tmp 25) 22 rfl wr.heap.size 3 i0 (.int .i64 0) 1 8 Try.underlying22 HI.out HZ0.out HZ1.out HZ2.out rfl (by decide) (.slice A1 k c1) k (nums bs) rfl HO1.out ⟨w1.heap.size, 0, none⟩ 1 1 [.int .i64 x] rfl rfl (cell_one_new _ _ _) (by simp [Value.oneCell']) (by decide) HM1.out HY1.out HZ1'.out (w1.heap.size + 1) (by simp) ?_; intro g2 c2 w2 hown2 hg2 hat2 hlt2)
          have hb2 : Below wr.heap.size wr w2 := (HB1.out.alloc hs1 (.cells #[.int .i64 x] 3)).grown hg2 HZ1'.out (fun kk e => (HO1.out.lt kk e).1)
          have hs2 : wr.heap.size ≤ w2.heap.size := hb2.size
          have HO2 := Lib.hid (own_fresh0' hown2)
          have HB2 := Lib.hid hb2
          have HOE := Lib.hid ((HH.out.below hb2).alloc (.cells #[.slice (some ⟨g2, 0, none⟩) (k + 1) c2] 22)).1
          have HM2 := Lib.hid (show acc.length + 1 ≤ maxLen by have := HAL.out; unfold maxLen; omega)
          have HY2 := Lib.hid (show (acc.length + 1) * 24 ≤ 140737488355328 by have := HAL.out; omega)
          have HZ2' := Lib.hid (show w.heap.size ≤ (w2.alloc (.cells #[.slice (some ⟨g2, 0, none⟩) (k + 1) c2] 22)).heap.size by simp; omega)
          clear hown2 hg2 hat2 hb2
          go_upto_region 9 with (at_builtin; refine wpList_append_lies _ rfl (.tmp 27) (.tmp 29) 28 rfl w.heap.size 22 i1 (.slice none 0 0) 1 24 Try.underlying28 RI.out RZ0.out RZ1.out RZ2.out rfl (by decide) (.slice E acc.length d) acc.length (rowVals acc) rfl HOE.out ⟨w2.heap.size, 0, none⟩ 1 1 [.slice (some ⟨g2, 0, none⟩) (k + 1) c2] rfl rfl (cell_one_new _ _ _) (by simp [Value.oneCell']) (by decide) HM2.out HY2.out HZ2'.out (w2.heap.size + 1) (by simp) ?_; intro g3 c3 w3 hown3 hg3 hat3 hlt3)
          have hF2 := HO2.out
          have hFl : (bs ++ [x]).length = k + 1 := by have := HK.out; simp; omega
          have hnx : nums bs ++ [Value.int .i64 x] = nums (bs ++ [x]) := by simp [nums]
          rw [hnx] at hF2
          have hH3 := Heads.push (r := ⟨some ⟨g2, 0, none⟩, k + 1, c2, bs ++ [x]⟩) HH.out hbs HB2.out hF2 hFl (by show k + 1 ≤ _; omega) hown3 hg3 hat3
          have hb3 : Below w.heap.size w w3 := ((below_then HB.out HB2.out hbs).alloc (by omega) (.cells #[.slice (some ⟨g2, 0, none⟩) (k + 1) c2] 22)).grown hg3 HZ2'.out (fun kk e => (HOE.out.lt kk e).1)
          have hs3 : w2.heap.size + 1 ≤ w3.heap.size := by have := hg3.size; simpa using this
          have hL3 : Holds w3 (some ⟨g2, 0, none⟩) (nums (bs ++ [x])) := (fresh_grown (hF2.alloc (.cells #[.slice (some ⟨g2, 0, none⟩) (k + 1) c2] 22)) hg3 (fun q e => .inl (by have := (HH.out.1.lt q e).2; omega))).holds
          have hR3 : Holds w3 (some ⟨b0, d0, none⟩) (nums (os.drop (j + 1))) := HRE.out.below hb3
          have hdl : (os.drop (j + 1)).length = n - (j + 1) := by have := HN.out; simp; omega
          have hcall := ih (some ⟨g2, 0, none⟩) (some ⟨b0, d0, none⟩) (k + 1) c2 (n - (j + 1)) (c - (j + 1)) (bs ++ [x]) (os.drop (j + 1)) w3 (by have := HG.out; have := HN.out; omega) (by omega) hL3 hR3 hFl hdl (by omega) (fun h => by cases h)
          have HC := Lib.hid hcall
          have HH3 := Lib.hid hH3
          have HB3 := Lib.hid hb3
          have hp0 : (0 : Int) ≤ (j : Int) + 1 := by omega
          have hp1 : (j : Int) + 1 ≤ (n : Int) := by omega
          have hp2 : ((j : Int) + 1).toNat = j + 1 := by omega
          have hbs3 : w.heap.size ≤ w3.heap.size := hb3.size
          clear hF2 hFl hnx hH3 hb3 hown3 hg3 hat3 hlt3 hL3 hR3 hdl hcall ih
          go_wp2_with fail
          refine HC.out.mono ?_
          rintro e w4 ⟨A4, c4, rs4, rfl, hr4, hn4, hs4, hh4, hb4⟩
          have HR4 := Lib.hid hr4
          have HH4 := Lib.hid hh4
          have HB4 := Lib.hid hb4
          have HL4 : Hid (acc.length + (1 + rs4.length) ≤ 255) := by show _ ≤ _; have h1 := HAL.out; have h2 := rowNums_len rs4; rw [hr4] at h2; omega
          have HOA := Lib.hid (HH3.out.below hb4).1
          have hal : (acc ++ [(⟨some ⟨g2, 0, none⟩, k + 1, c2, bs ++ [x]⟩ : RowV)]).length = acc.length + 1 := by simp
          have HAL2 := Lib.hid hal
          have hbs4 : w3.heap.size ≤ w4.heap.size := hb4.size
          have hEnd : rowNums (acc ++ [(⟨some ⟨g2, 0, none⟩, k + 1, c2, bs ++ [x]⟩ : RowV)]) ++ rowNums rs4 ++ subs m (os.drop (j + 1)) bs = subs m os bs := by
            rw [← HNX.out, hr4]
            simp [rowNums]
          have HEND := Lib.hid hEnd
          rw [hal] at HOA
          clear hr4 hh4 hb4 hal hEnd
          cases A4 with
          | none =>
            obtain ⟨rfl, rfl⟩ := hn4 rfl
            clear hn4 hs4
            go_wp2_with (at_builtin; refine wpList_append_own_none rfl (.tmp 31) (.tmp 38) 28 rfl w.heap.size 22 i1 1 Try.underlying28 RI.out _ (acc.length + 1) _ rfl HOA.out rfl ?_)
            go_roundw
            case rel => exact ⟨j + 1, some ⟨g3, 0, none⟩, c3, acc ++ [⟨some ⟨g2, 0, none⟩, k + 1, c2, bs ++ [x]⟩], by omega, by go_num, by rw [HAL2.out], by simpa [rowNums] using HEND.out, fun h => (by cases h), fun a h => by obtain rfl := Option.some.inj h; exact ⟨rfl, by rw [HAL2.out]; omega⟩, HH3.out.below HB4.out, below_then HB3.out HB4.out hbs3⟩
            case measure => simp [intOf]; omega
          | some a4 =>
            obtain ⟨ha4, hpos⟩ := hs4 a4 rfl
            obtain ⟨b4, rfl⟩ : ∃ b4, a4 = ⟨b4, 0, none⟩ := ⟨_, ha4⟩
            have HNW : Hid (∀ j u, (rowVals rs4)[j]? = some u → w4.cell? ((⟨b4, 0, none⟩ : Addr).add j) = some u) := fun j u hu => by
              rw [Addr.add_lit]
              rcases holds_of_own HH4.out.1 with h | ⟨b, o, h, -, hcell⟩
              · rw [h] at hu; simp at hu
              · obtain ⟨rfl, rfl⟩ : b4 = b ∧ 0 = o := by simpa using h
                exact hcell j u hu
            have HLN := Lib.hid (show (rowVals rs4).length = rs4.length * 1 by rw [rowVals_len, Nat.mul_one])
            have HM4 := Lib.hid (show acc.length + 1 + rs4.length ≤ maxLen by have := HL4.out; unfold maxLen; omega)
            have HY4 := Lib.hid (show (acc.length + 1 + rs4.length) * 24 ≤ 140737488355328 by have := HL4.out; omega)
            have HZ4 := Lib.hid (show w.heap.size ≤ w4.heap.size by omega)
            clear hn4 hs4 ha4
            go_wp2_with (at_builtin; refine wpList_append_lies _ rfl (.tmp 31) (.tmp 38) 28 rfl w.heap.size 22 i1 (.slice none 0 0) 1 24 Try.underlying28 RI.out RZ0.out RZ1.out RZ2.out rfl (by decide) (.slice (some ⟨g3, 0, none⟩) (acc.length + 1) c3) (acc.length + 1) _ rfl HOA.out ⟨b4, 0, none⟩ rs4.length c4 (rowVals rs4) rfl HLN.out HNW.out (rowVals_one rs4) hpos HM4.out HY4.out HZ4.out w4.heap.size rfl ?_; intro g5 c5 w5 hown5 hg5 hat5 hlt5)
            rw [← HAL2.out] at hown5 hg5 hat5
            have HJ := Lib.hid (Heads.join HH3.out hbs3 HB4.out HH4.out hown5 hg5 hat5)
            have HB5 := Lib.hid ((below_then HB3.out HB4.out hbs3).grown hg5 HZ4.out (fun kk e => by rw [HAL2.out] at e; exact (HOA.out.lt kk e).1))
            clear hown5 hg5 hat5 hlt5
            go_roundw
            case rel => exact ⟨j + 1, some ⟨g5, 0, none⟩, c5, acc ++ [⟨some ⟨g2, 0, none⟩, k + 1, c2, bs ++ [x]⟩] ++ rs4, by omega, by go_num, by rw [List.length_append, HAL2.out], by rw [show rowNums (acc ++ [⟨some ⟨g2, 0, none⟩, k + 1, c2, bs ++ [x]⟩] ++ rs4) = rowNums (acc ++ [⟨some ⟨g2, 0, none⟩, k + 1, c2, bs ++ [x]⟩]) ++ rowNums rs4 by simp [rowNums]]; exact HEND.out, fun h => (by cases h), fun a h => by obtain rfl := Option.some.inj h; exact ⟨rfl, by rw [List.length_append]; omega⟩, HJ.out, HB5.out⟩
            case measure => simp [intOf]; omega
        · obtain rfl : j = n := by omega
          have HR : Hid (rowNums acc = subs m os bs) := by show _ = _; rw [← hacc, List.drop_eq_nil_of_le (by have := HN.out; omega)]; simp [subs]
          have HH := Lib.hid hh
          have HEN := Lib.hid hEn
          have HES := Lib.hid hEs
          clear hacc hh hEn hEs
          go_wp2
          go_ret
          exact ⟨E, d, acc, rfl, HR.out, HEN.out, HES.out, HH.out, hb⟩
end Go.Proofs.Ytkocompjjogciaa

namespace Go.Proofs.Ytkocompjjogciaa
open Go.RowKit

theorem mild_ord {xs : List Int} (h : ∀ y ∈ xs, 1 ≤ y ∧ y ≤ 1000) : Mild (mk xs (ord xs)) := by
  intro k
  by_cases hk : k < (ord xs).length
  · rw [wk_mk hk]
    have hm := ord_mem (List.getElem_mem hk)
    have hx : ((ord xs)[k]).toNat < xs.length := by omega
    have := h _ (List.getElem_mem hx)
    show 0 ≤ tm xs (ord xs)[k] ∧ tm xs (ord xs)[k] ≤ 1000
    simp only [tm, List.getD_eq_getElem?_getD, List.getElem?_eq_getElem hx, Option.getD_some]
    omega
  · have : wk (mk xs (ord xs)) k = (0, 0) := by
      simp [wk, List.getD_eq_getElem?_getD, List.getElem?_eq_none (show (mk xs (ord xs)).length ≤ k by rw [mk_len]; omega)]
    rw [this]
    simp
/-- All trips for some times, if they are times; else none. -/
def prTs (f : Bool) (xs : List Int) : List Pt := if prOk xs then tripsT f (mk xs (ord xs)) xs.length else []
theorem prTs_yes {f : Bool} {xs : List Int} (h : prOk xs = true) : prTs f xs = tripsT f (mk xs (ord xs)) xs.length := if_pos h
theorem prTs_no {f : Bool} {xs : List Int} (h : prOk xs = false) : prTs f xs = [] := if_neg (by simp [h])
theorem prTs_len (f : Bool) (xs : List Int) : (prTs f xs).length ≤ 24 := by
  cases h : prOk xs
  · rw [prTs_no h]; simp
  · rw [prTs_yes h]
    have := trips_len f (mk xs (ord xs)) xs.length
    have := (prOk_parts h).2.1
    omega
theorem prTs_ok {f : Bool} {xs : List Int} : ∀ t ∈ prTs f xs, OkT xs t := by
  cases h : prOk xs
  · rw [prTs_no h]; simp
  · rw [prTs_yes h]
    exact trips_ok (good_ord xs) f _ (by rw [mk_len, ord_len]; exact Nat.le_refl _)
theorem prTs_mild {f : Bool} {xs : List Int} : ∀ t ∈ prTs f xs, 0 ≤ t.2.2 ∧ t.2.2 ≤ 1000 := by
  intro t ht
  cases h : prOk xs
  · rw [prTs_no h] at ht; simp at ht
  · have ho := prTs_ok t ht
    have hm := (prOk_parts h).2.2
    obtain ⟨-, ⟨h1, h2, h3⟩, -⟩ := ho
    rw [h1]
    have hx : (t.2.1).toNat < xs.length := by omega
    have := hm _ (List.getElem_mem hx)
    simp only [tm, List.getD_eq_getElem?_getD, List.getElem?_eq_getElem hx, Option.getD_some]
    omega
/-- What pairTrips hands back. -/
def PairsPost (ts : List Pt) (ok : Bool) (w : World) (e : Ending) (w' : World) : Prop :=
  ∃ (E : Option Addr) (d : Nat), e = .returned (.tuple #[.slice E ts.length d, .bool ok]) ∧ w'.ownsRow w.heap.size 233 4 (.slice E ts.length d) ts.length (ptsCells ts) ∧ Below w.heap.size w w'

set_option maxHeartbeats 3200000 in
set_option maxRecDepth 100000 in
theorem pairTrips_any (A : Option Addr) (n c : Nat) (xs : List Int) (f : Bool) (w : World) (hA : Holds w A (nums xs)) (hx : xs.length = n) (hn : n ≤ 9223372036854775807) :
    Calls Try.prog 185 #[.slice A n c, .bool f] w (PairsPost (prTs f xs) (prOk xs) w) := by
  have HX := Lib.hid hx
  clear hx
  go_enter Try.func185, Try.ntmps185
  go_wp2_with fail
  refine (squadOf_any A n c xs _ hA HX.out hn).mono ?_
  rintro e w1 hpost
  rcases hpost with ⟨⟨hp, rfl⟩ | ⟨hp, rfl⟩, hb⟩
  · have HP := Lib.hid hp
    have hmp := prOk_parts hp
    have HM := Lib.hid (mild_ord hmp.2.2)
    have h12 := hmp.2.1
    have h1 := hmp.1
    have HB := Lib.hid hb
    have HWL : Hid ((mk xs (ord xs)).length = xs.length) := by show _ = _; rw [mk_len, ord_len]
    clear hp hmp hb
    generalize hW : mk xs (ord xs) = W at HM HWL ⊢
    have HW := Lib.hid hW
    clear hW
    go_upto_region 2 with (refine wpList_store_whole rfl 228 (.tmp 6) (.tmp 11) rfl w1.heap.size (squadCells W xs.length) rfl rfl 228 _ (Whole.fresh _ _ _) size_squad rfl (squad_one _ _) ?_; intro W2 hw2 ho2)
    have hb2 := ho2.below (HB.out.alloc HB.out.size (.cells (squadCells [] 0) 228)) HB.out.size
    have HW2 := Lib.hid hw2
    have HB2 := Lib.hid hb2
    clear hw2 ho2 hb2
    go_wp2_with (refine wpList_load_row rfl 228 (.tmp 6) rfl w1.heap.size rfl 228 (squadCells W xs.length) (0, 0) _ HW2.out Try.underlying228 rfl size_squad ?_)
    have htr := trips_any W f W2 (by rw [HWL.out]; exact h1) (by rw [HWL.out]; exact h12) HM.out
    rw [HWL.out] at htr
    refine htr.mono ?_
    clear htr
    rintro e w3 ⟨E, d, rfl, hown, hb3⟩
    have HO := Lib.hid (own_lower hown HB2.out.size)
    have HB3 := Lib.hid (below_then HB2.out hb3 HB2.out.size)
    clear hown hb3
    go_wp2
    go_ret2
    rw [prTs_yes HP.out, HP.out, HW.out]
    exact ⟨E, d, rfl, HO.out, HB3.out⟩
  · have HP := Lib.hid hp
    have HB := Lib.hid hb
    clear hp hb
    go_upto_region 2 with (refine wpList_store_whole rfl 228 (.tmp 6) (.tmp 11) rfl w1.heap.size (squadCells [] 0) rfl rfl 228 _ (Whole.fresh _ _ _) size_squad rfl (squad_one _ _) ?_; intro W2 hw2 ho2)
    have hb2 := ho2.below (HB.out.alloc HB.out.size (.cells (squadCells [] 0) 228)) HB.out.size
    have HB2 := Lib.hid hb2
    clear hw2 ho2 hb2
    go_wp2
    go_ret2
    rw [prTs_no HP.out, HP.out]
    exact ⟨none, 0, rfl, World.ownsRow_nil _ _ _ _, HB2.out⟩

theorem pts_at {ts : List Pt} {k j : Nat} (hk : k < ts.length) (hj : j < 4) : (ptsCells ts)[k * 4 + j]? = (ptCells ts[k])[j]? := by
  induction ts generalizing k with
  | nil => simp at hk
  | cons t ts ih =>
    have h4 : (ptCells t).toList.length = 4 := rfl
    have hc : ptsCells (t :: ts) = (ptCells t).toList ++ ptsCells ts := rfl
    rw [hc]
    cases k with
    | zero =>
      rw [List.getElem?_append_left (by rw [h4]; omega)]
      simp
    | succ k =>
      rw [List.getElem?_append_right (by rw [h4]; omega), h4]
      have := ih (k := k) (by simpa using hk)
      simp only [List.getElem_cons_succ]
      rw [← this]
      congr 1
      omega
theorem pt_row {w : World} {b o : Nat} {ts : List Pt} {k : Nat} (h : ∀ j u, (ptsCells ts)[j]? = some u → w.cell? ⟨b, o + j, none⟩ = some u) (hk : k < ts.length) :
    w.cell? ⟨b, o + k * 4, none⟩ = some (.int .i64 ts[k].1.1) ∧ w.cell? ⟨b, o + k * 4 + 1, none⟩ = some (.int .i64 ts[k].1.2) ∧ w.cell? ⟨b, o + k * 4 + 2, none⟩ = some (.int .i64 ts[k].2.1) ∧ w.cell? ⟨b, o + k * 4 + 3, none⟩ = some (.int .i64 ts[k].2.2) :=
  ⟨h _ _ (pts_at hk (j := 0) (by omega)), by rw [Nat.add_assoc]; exact h _ _ (pts_at hk (j := 1) (by omega)), by rw [Nat.add_assoc]; exact h _ _ (pts_at hk (j := 2) (by omega)), by rw [Nat.add_assoc]; exact h _ _ (pts_at hk (j := 3) (by omega))⟩
theorem holds_at {w : World} {A : Option Addr} {xs : List Value} (h : Holds w A xs) (h0 : 0 < xs.length) : ∃ b o, A = some ⟨b, o, none⟩ ∧ b < w.heap.size ∧ ∀ j u, xs[j]? = some u → w.cell? ⟨b, o + j, none⟩ = some u := by
  rcases h with rfl | h
  · simp at h0
  · exact h
theorem timeT_next {ts : List Pt} {k : Nat} (h : k < ts.length) : timeT (ts.take (k + 1)) = timeT (ts.take k) + ts[k].2.2 := by
  rw [timeT, timeT, List.take_succ_eq_append_getElem h, List.map_append, List.sum_append]
  simp
theorem timeT_bd {ts : List Pt} (h : ∀ t ∈ ts, 0 ≤ t.2.2 ∧ t.2.2 ≤ 1000) : 0 ≤ timeT ts ∧ timeT ts ≤ 1000 * ts.length := by
  induction ts with
  | nil => simp [timeT]
  | cons t ts ih =>
    have h1 := h t (by simp)
    have h2 := ih fun x hx => h x (List.mem_cons_of_mem _ hx)
    simp only [timeT, List.map_cons, List.sum_cons, List.length_cons] at h2 ⊢
    omega

set_option maxHeartbeats 3200000 in
set_option maxRecDepth 100000 in
theorem timeOfTrips_any (E : Option Addr) (n d : Nat) (ts : List Pt) (w : World) (hE : Holds w E (ptsCells ts)) (hn : ts.length = n) (h24 : n ≤ 24) (hm : ∀ t ∈ ts, 0 ≤ t.2.2 ∧ t.2.2 ≤ 1000) :
    Calls Try.prog 186 #[.slice E n d] w fun e w' => e = .returned (.int .i64 (timeT ts)) ∧ Below w.heap.size w w' := by
  have HN := Lib.hid hn
  have HM := Lib.hid hm
  clear hn hm
  go_enter Try.func186, Try.ntmps186
  go_wp2
  go_loopw [3, 8] (fun v i wr => ∃ k : Nat, k ≤ n ∧ i = .int .i64 k ∧ v = .int .i64 (timeT (ts.take k)) ∧ Below w.heap.size w wr) (fun _ i _ => n - (intOf i).toNat)
  case atStart => exact ⟨0, Nat.zero_le _, rfl, rfl, Below.refl _ _⟩
  case round =>
    obtain ⟨k, hk, rfl, rfl, hb⟩ := hrel
    by_cases hlt : k < n
    · have hkt : k < ts.length := by have := HN.out; omega
      obtain ⟨b1, o1, rfl, -, hcell⟩ := holds_at (hE.below hb) (by rw [pts_len]; omega)
      obtain ⟨c0, c1, c2, c3⟩ := pt_row hcell hkt
      have hbd := timeT_bd (ts := ts.take k) fun t ht => HM.out t (List.mem_of_mem_take ht)
      have hlen : (ts.take k).length ≤ 24 := by simp; omega
      have hs0 := hbd.1
      have hs1 : timeT (ts.take k) ≤ 24000 := by omega
      have ht := HM.out _ (List.getElem_mem hkt)
      have HNX := Lib.hid (timeT_next hkt)
      generalize ts[k] = t at c0 c1 c2 c3 ht HNX
      obtain ⟨⟨t1, t2⟩, t3, t4⟩ := t
      dsimp only at c0 c1 c2 c3 ht
      have ht1 := ht.1
      have ht2 := ht.2
      have HB := Lib.hid (hb.alloc hb.size (.cells #[.int .i64 t1, .int .i64 t2, .int .i64 t3, .int .i64 t4] 233))
      clear hcell hbd hlen ht hb
      go_wp2
      go_roundw
      case rel => exact ⟨k + 1, by omega, by go_num, by rw [HNX.out], HB.out⟩
      case measure => simp [intOf]; omega
    · obtain rfl : k = n := by omega
      have HT : Hid (ts.take k = ts) := List.take_of_length_le (by have := HN.out; omega)
      go_wp2
      go_ret
      exact ⟨ret_of (by rw [HT.out]; rfl), hb⟩
end Go.Proofs.Ytkocompjjogciaa

namespace Go.Proofs.Ytkocompjjogciaa
open Go.RowKit

/-- The world with these lists laid, each in a block of its own. -/
def lay (w : World) : List (List Int) → World
  | [] => w
  | l :: ls => lay (w.alloc (.cells (nums l).toArray 3)) ls
def rowsAt (b : Nat) : List (List Int) → List RowV
  | [] => []
  | l :: ls => ⟨some ⟨b, 0, none⟩, l.length, l.length, l⟩ :: rowsAt (b + 1) ls
theorem rowsAt_len : ∀ (ls : List (List Int)) (b : Nat), (rowsAt b ls).length = ls.length
  | [], _ => rfl
  | _ :: ls, b => by rw [rowsAt, List.length_cons, List.length_cons, rowsAt_len ls (b + 1)]
theorem rowsAt_nums : ∀ (ls : List (List Int)) (b : Nat), rowNums (rowsAt b ls) = ls
  | [], _ => rfl
  | l :: ls, b => by
    have := rowsAt_nums ls (b + 1)
    simp only [rowsAt, rowNums, List.map_cons] at this ⊢
    rw [this]
theorem lay_below : ∀ (ls : List (List Int)) (w : World), Below w.heap.size w (lay w ls)
  | [], w => Below.refl _ _
  | l :: ls, w => (below1 w _).trans ((lay_below ls _).mono (by simp))
theorem lay_size : ∀ (ls : List (List Int)) (w : World), (lay w ls).heap.size = w.heap.size + ls.length
  | [], w => rfl
  | l :: ls, w => by rw [lay, lay_size ls, World.size_alloc, List.length_cons]; omega
theorem lay_own : ∀ (ls : List (List Int)) (w : World), (∀ l ∈ ls, l.length ≤ 1048576) → OwnRows (lay w ls) w.heap.size (lay w ls).heap.size (rowsAt w.heap.size ls)
  | [], w, _ => Nat.le_refl _
  | l :: ls, w, h => by
    have ih := lay_own ls (w.alloc (.cells (nums l).toArray 3)) fun x hx => h x (List.mem_cons_of_mem _ hx)
    rw [World.size_alloc] at ih
    have hw : Whole (w.alloc (.cells (nums l).toArray 3)) w.heap.size 3 (nums l).toArray := Whole.fresh w _ _
    have hw2 : Whole (lay w (l :: ls)) w.heap.size 3 (nums l).toArray := hw.below (lay_below ls _)
    refine ⟨w.heap.size + 1, Nat.le_succ _, ?_, rfl, h l (by simp), ih⟩
    have := Fresh.of_whole (lo := w.heap.size) (hi := w.heap.size + 1) hw2 (Nat.le_refl _) (Nat.lt_succ_self _)
    exact this
/-- The list of the lists laid, as one that more can be put behind. -/
theorem lay_heads (ls : List (List Int)) (w : World) (h : ∀ l ∈ ls, l.length ≤ 1048576) (hn : ls.length ≤ maxLen) :
    Heads ((lay w ls).alloc (.cells (rowVals (rowsAt w.heap.size ls)).toArray 22)) w.heap.size (some ⟨(lay w ls).heap.size, 0, none⟩) ls.length (rowsAt w.heap.size ls) := by
  obtain ⟨ps, h1, h2⟩ := (lay_own ls w h).free
  refine ⟨?_, ps, h1.below (below1 _ _), fun p hp => ⟨(h2 p hp).1, by have := (h2 p hp).2; simp; omega⟩, fun a ha p hp => ?_⟩
  · refine ⟨by rw [rowVals_len, Nat.mul_one], .inr ⟨(lay w ls).heap.size, ls.length, (rowVals (rowsAt w.heap.size ls)).toArray, by rw [rowsAt_len], by rw [lay_size]; omega, Whole.fresh _ _ _, by rw [rowsAt_len]; exact Nat.le_refl _, hn, by rw [List.size_toArray, rowVals_len, rowsAt_len, Nat.mul_one], ?_⟩⟩
    rw [Nat.mul_one, List.take_of_length_le (by simp [rowVals_len])]
  · obtain rfl := Option.some.inj ha
    exact .inr (h2 p hp).2
theorem lay_all (ls : List (List Int)) (w : World) (o : Obj) : Below w.heap.size w ((lay w ls).alloc o) := (lay_below ls w).alloc (by rw [lay_size]; omega) o
theorem lay_news (ls : List (List Int)) (w : World) : ∀ j u, (rowVals (rowsAt w.heap.size ls))[j]? = some u → ((lay w ls).alloc (.cells (rowVals (rowsAt w.heap.size ls)).toArray 22)).cell? ((⟨(lay w ls).heap.size, 0, none⟩ : Addr).add j) = some u := by
  have h := cells_fresh (lay w ls) 22 (rowVals (rowsAt w.heap.size ls)).toArray
  simpa using h
end Go.Proofs.Ytkocompjjogciaa

namespace Go.Proofs.Ytkocompjjogciaa
open Go.RowKit

/-- The sign of a round: f for a fetch, e for an escort. -/
def signR (f : Bool) (W : List Wk) (k : Nat) : UInt8 := if f && decide (0 < gainOf W k) then 102 else 101
def signsT (f : Bool) (W : List Wk) : Nat → List UInt8
  | 0 => []
  | 1 => []
  | 2 => []
  | 3 => []
  | k + 4 => signR f W (k + 2) :: signsT f W (k + 2)
def evenT (W : List Wk) : Nat → Bool
  | 0 => false
  | 1 => false
  | 2 => false
  | 3 => false
  | k + 4 => decide (gainOf W (k + 2) = 0) || evenT W (k + 2)
theorem signsT_step (f : Bool) (W : List Wk) {k y : Nat} (h4 : 4 ≤ k) (hy : y + 2 = k) : signsT f W k = signR f W y :: signsT f W y := by
  obtain ⟨m, rfl⟩ : ∃ m, k = m + 4 := ⟨k - 4, by omega⟩
  obtain rfl : y = m + 2 := by omega
  rw [signsT]
theorem evenT_step (W : List Wk) {k y : Nat} (h4 : 4 ≤ k) (hy : y + 2 = k) : evenT W k = (decide (gainOf W y = 0) || evenT W y) := by
  obtain ⟨m, rfl⟩ : ∃ m, k = m + 4 := ⟨k - 4, by omega⟩
  obtain rfl : y = m + 2 := by omega
  rw [evenT]
theorem tripsM_step (f : Bool) (W : List Wk) {k y : Nat} (h4 : 4 ≤ k) (hy : y + 2 = k) : (tripsT f W k).map listT = (round f W y).map listT ++ (tripsT f W y).map listT := by
  obtain ⟨m, rfl⟩ : ∃ m, k = m + 4 := ⟨k - 4, by omega⟩
  obtain rfl : y = m + 2 := by omega
  rw [tripsT, List.map_append]
theorem signsT_len (f : Bool) (W : List Wk) : ∀ k, (signsT f W k).length ≤ k
  | 0 => Nat.le_refl _
  | 1 => by simp [signsT]
  | 2 => by simp [signsT]
  | 3 => by simp [signsT]
  | k + 4 => by
    have := signsT_len f W (k + 2)
    rw [signsT, List.length_cons]
    omega
theorem list_alone (x : Wk) : listT (x, x) = [x.1] := by simp [listT, isAlone]
theorem list_pair {x y : Wk} (h : x.1 ≠ y.1) : listT (x, y) = [min x.1 y.1, max x.1 y.1] := by
  have hne : ¬ x = y := fun e => h (by rw [e])
  simp [listT, isAlone, hne]
theorem fetch_lists {xs : List Int} {W : List Wk} (h : GoodW xs W) {y : Nat} (h2 : 2 ≤ y) (hy : y + 1 < W.length) (hg : 0 < gainOf W y) :
    (round true W y).map listT = [[min (wk W 0).1 (wk W 1).1, max (wk W 0).1 (wk W 1).1], [(wk W 0).1], [min (wk W y).1 (wk W (y + 1)).1, max (wk W y).1 (wk W (y + 1)).1], [(wk W 1).1]] := by
  rw [round, if_pos (by simp [hg])]
  simp only [List.map_cons, List.map_nil, list_alone, list_pair (h.two 0 1 (by omega) (by omega)).2, list_pair (h.two y (y + 1) (by omega) hy).2]
theorem escort_lists {xs : List Int} {W : List Wk} (h : GoodW xs W) {f : Bool} {y : Nat} (h2 : 2 ≤ y) (hy : y + 1 < W.length) (hg : (f && decide (0 < gainOf W y)) = false) :
    (round f W y).map listT = [[min (wk W 0).1 (wk W (y + 1)).1, max (wk W 0).1 (wk W (y + 1)).1], [(wk W 0).1], [min (wk W 0).1 (wk W y).1, max (wk W 0).1 (wk W y).1], [(wk W 0).1]] := by
  rw [round, if_neg (by simp [hg])]
  simp only [List.map_cons, List.map_nil, list_alone, list_pair (h.two 0 (y + 1) (by omega) hy).2, list_pair (h.two 0 y (by omega) (by omega)).2]

set_option maxHeartbeats 800000 in
theorem prPair_any (x y : Int) (w : World) : Calls Try.prog 199 #[.int .i64 x, .int .i64 y] w fun e w' => e = .returned (.slice (some ⟨w.heap.size, 0, none⟩) 2 2) ∧ w' = w.alloc (.cells #[.int .i64 (min x y), .int .i64 (max x y)] 3) := by
  by_cases h : y < x
  · have HM : Hid (min x y = y ∧ max x y = x) := by show _ ∧ _; omega
    go_enter Try.func199, Try.ntmps199
    go_wp2
    go_ret
    exact ⟨rfl, by rw [HM.out.1, HM.out.2]⟩
  · have HM : Hid (min x y = x ∧ max x y = y) := by show _ ∧ _; omega
    go_enter Try.func199, Try.ntmps199
    go_wp2
    go_ret
    exact ⟨rfl, by rw [HM.out.1, HM.out.2]⟩

theorem cat_sign (l : List UInt8) (c : UInt8) (h : l.length ≤ 1048576) (W : World) : (Op.stringOp .add ⟨l.toArray⟩ ⟨#[c]⟩).run Try.prog W = .ok (.string ⟨(l ++ [c]).toArray⟩) W :=
  run_string_add_lists W l [c] (by omega) (by simp)
theorem lay_heads' (ls : List (List Int)) (w : World) (h : ∀ l ∈ ls, l.length ≤ 1048576) (hn : ls.length ≤ maxLen) :
    Heads ((lay w ls).alloc (.cells (rowVals (rowsAt w.heap.size ls)).toArray 22)) w.heap.size (some ⟨w.heap.size + ls.length, 0, none⟩) ls.length (rowsAt w.heap.size ls) := by
  have := lay_heads ls w h hn
  rwa [lay_size] at this
theorem lay_news' (ls : List (List Int)) (w : World) : ∀ j u, (rowVals (rowsAt w.heap.size ls))[j]? = some u → ((lay w ls).alloc (.cells (rowVals (rowsAt w.heap.size ls)).toArray 22)).cell? ((⟨w.heap.size + ls.length, 0, none⟩ : Addr).add j) = some u := by
  have := lay_news ls w
  rwa [lay_size] at this
theorem rowsAt_vals (b : Nat) (ls : List (List Int)) : (rowVals (rowsAt b ls)).length = ls.length * 1 := by rw [rowVals_len, rowsAt_len, Nat.mul_one]
theorem rowVals_one' (rs : List RowV) : ∀ u ∈ rowVals rs, u.oneCell' = true := by
  intro v hv
  simp only [rowVals, List.mem_map] at hv
  obtain ⟨x, -, rfl⟩ := hv
  rfl
theorem laid_size (ls : List (List Int)) (w : World) (o : Obj) : ((lay w ls).alloc o).heap.size = w.heap.size + ls.length + 1 := by rw [World.size_alloc, lay_size]
end Go.Proofs.Ytkocompjjogciaa
