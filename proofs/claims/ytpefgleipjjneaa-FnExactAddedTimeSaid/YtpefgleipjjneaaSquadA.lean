/-
  What is proved: contracts of the program's sortBy at people with their times (slices.SortStableFunc at twelve at most), and plain facts on squads. Conditions: the people are read as they lie.
-/
import Derived.Test.YtpefgleipjjneaaPr
import Derived.Test.YtpefgleipjjneaaRow
import Derived.Shelf.SlSortCmp.InsertionK
import Derived.Lib.Small
import Derived.Deep.RegionHeld3
import Derived.Deep.DeepCutAuto
namespace Go.Proofs.Ytpefgleipjjneaa
open Go.RowKit

/-- A squad's cells. -/
def squadCells (W : List Wk) (n : Int) : Array Value := #[.int .i64 (wk W 0).1, .int .i64 (wk W 0).2, .int .i64 (wk W 1).1, .int .i64 (wk W 1).2, .int .i64 (wk W 2).1, .int .i64 (wk W 2).2, .int .i64 (wk W 3).1, .int .i64 (wk W 3).2, .int .i64 (wk W 4).1, .int .i64 (wk W 4).2, .int .i64 (wk W 5).1, .int .i64 (wk W 5).2, .int .i64 (wk W 6).1, .int .i64 (wk W 6).2, .int .i64 (wk W 7).1, .int .i64 (wk W 7).2, .int .i64 (wk W 8).1, .int .i64 (wk W 8).2, .int .i64 (wk W 9).1, .int .i64 (wk W 9).2, .int .i64 (wk W 10).1, .int .i64 (wk W 10).2, .int .i64 (wk W 11).1, .int .i64 (wk W 11).2, .int .i64 n]
theorem squad_size (W : List Wk) (n : Int) : (squadCells W n).size = 25 := rfl
theorem squad_one (W : List Wk) (n : Int) : (squadCells W n).all (·.oneCell') = true := by simp [squadCells, Value.oneCell']
theorem squad_who (W : List Wk) (n : Int) {k : Nat} (h : k < 12) : (squadCells W n)[2 * k]? = some (.int .i64 (wk W k).1) :=
  match k, h with
  | 0, _ => rfl
  | 1, _ => rfl
  | 2, _ => rfl
  | 3, _ => rfl
  | 4, _ => rfl
  | 5, _ => rfl
  | 6, _ => rfl
  | 7, _ => rfl
  | 8, _ => rfl
  | 9, _ => rfl
  | 10, _ => rfl
  | 11, _ => rfl
theorem squad_time (W : List Wk) (n : Int) {k : Nat} (h : k < 12) : (squadCells W n)[2 * k + 1]? = some (.int .i64 (wk W k).2) :=
  match k, h with
  | 0, _ => rfl
  | 1, _ => rfl
  | 2, _ => rfl
  | 3, _ => rfl
  | 4, _ => rfl
  | 5, _ => rfl
  | 6, _ => rfl
  | 7, _ => rfl
  | 8, _ => rfl
  | 9, _ => rfl
  | 10, _ => rfl
  | 11, _ => rfl
theorem squad_n (W : List Wk) (n : Int) : (squadCells W n)[24]? = some (.int .i64 n) := rfl
theorem size_squad : (Try.prog.info? 55).map (·.size) = some 25 := by kernel_rfl
/-- A person more. -/
theorem squad_next (W : List Wk) (n : Int) (x : Wk) (h : W.length < 12) : ((squadCells W n).setIfInBounds (2 * W.length) (.int .i64 x.1)).setIfInBounds (2 * W.length + 1) (.int .i64 x.2) = squadCells (W ++ [x]) n := by
  have hw : ∀ i, wk (W ++ [x]) i = if i = W.length then x else wk W i := fun i => by
    simp only [wk, List.getD_eq_getElem?_getD, List.getElem?_append]
    rcases Nat.lt_trichotomy i W.length with hi | hi | hi
    · rw [if_pos hi, if_neg (by omega)]
    · subst hi
      rw [if_neg (by omega), if_pos rfl]
      simp
    · rw [if_neg (by omega), if_neg (by omega), List.getElem?_eq_none (by simp; omega), List.getElem?_eq_none (by omega)]
  unfold squadCells
  simp only [hw]
  generalize W.length = k at h ⊢
  match k, h with
  | 0, _ => rfl
  | 1, _ => rfl
  | 2, _ => rfl
  | 3, _ => rfl
  | 4, _ => rfl
  | 5, _ => rfl
  | 6, _ => rfl
  | 7, _ => rfl
  | 8, _ => rfl
  | 9, _ => rfl
  | 10, _ => rfl
  | 11, _ => rfl

/-- Draws and blocks behind a world. -/
def Grown (W W' : World) : Prop := ∃ q os, W' = Go.Sort.grow (W.drewN q) os
theorem drewN_grow (W : World) (os : Array Obj) : ∀ q, (Go.Sort.grow W os).drewN q = Go.Sort.grow (W.drewN q) os
  | _ => rfl
theorem Grown.refl (W : World) : Grown W W := ⟨0, #[], by rw [Go.Sort.grow_empty]; rfl⟩
theorem Grown.alloc {W W' : World} (h : Grown W W') (o : Obj) : Grown W (W'.alloc o) := by
  obtain ⟨q, os, rfl⟩ := h
  exact ⟨q, os ++ #[o], by rw [Go.Sort.alloc_eq_grow, Go.Sort.grow_grow]⟩
theorem Grown.drewN {W W' : World} (h : Grown W W') (n : Nat) : Grown W (W'.drewN n) := by
  obtain ⟨q, os, rfl⟩ := h
  exact ⟨q + n, os, by rw [drewN_grow]; first | rfl | rw [World.drewN_drewN]⟩
theorem Grown.drew {W W' : World} (h : Grown W W') : Grown W W'.drew := h.drewN 1
theorem Grown.trans {W W' W'' : World} (h : Grown W W') (k : Grown W' W'') : Grown W W'' := by
  obtain ⟨q, os, rfl⟩ := h
  obtain ⟨r, ps, rfl⟩ := k
  exact ⟨q + r, os ++ ps, by rw [drewN_grow, Go.Sort.grow_grow]; first | rfl | rw [World.drewN_drewN]⟩
theorem Grown.below {W W' : World} (h : Grown W W') : Below W.heap.size W W' := by
  obtain ⟨q, os, rfl⟩ := h
  exact ⟨rfl, rfl, rfl, by simp [Go.Sort.grow], fun k hk => Go.Sort.heap_grow_old _ _ hk⟩

def Try.laysW_ren : Go.Shelf.Ren := ⟨fun | 20 => 43 | n => n, fun | 0 => 0 | 3 => 3 | 4 => 4 | 22 => 63 | 24 => 52 | 25 => 69 | n => n, fun | n => n⟩
theorem Try.laysW : Go.Proofs.SlLaysF0.n20 Try.prog Try.laysW_ren := {
  mixed := by kernel_rfl
  f20 := ⟨ "slices.insertionSortCmpFunc[loop.example/g01272/impl.walker]", by decide, Try.func43.trans (congrArg some (by kernel_rfl))⟩
  t0 := Try.underlying0
  a0 := Try.isAgg0
  z0 := Try.sizeOf0
  v0 := Try.zeroValue0
  t3 := Try.underlying3
  a3 := Try.isAgg3
  z3 := Try.sizeOf3
  v3 := Try.zeroValue3
  t4 := Try.underlying4
  a4 := Try.isAgg4
  z4 := Try.sizeOf4
  v4 := Try.zeroValue4
  t22 := Try.underlying63
  a22 := Try.isAgg63
  z22 := Try.sizeOf63
  v22 := Try.zeroValue63
  t25 := Try.underlying69
  a25 := Try.isAgg69
  z25 := Try.sizeOf69
  v25 := Try.zeroValue69
}

set_option maxHeartbeats 400000 in
theorem isNaN_any (x : Int) (w : World) : Calls Try.prog 42 #[.int .i64 x] w fun e w' => e = .returned (.bool false) ∧ w = w' := by
  go_enter Try.func42, Try.ntmps42
  go_wp2
  go_ret
  exact ⟨by simp, rfl⟩
set_option maxHeartbeats 800000 in
theorem compare_any (x y : Int) (w : World) : Calls Try.prog 40 #[.int .i64 x, .int .i64 y] w fun e w' => e = .returned (.int .i64 (Go.Lib.compareInt x y)) ∧ w = w' := by
  by_cases h : x < y
  · have HC : Hid (Go.Lib.compareInt x y = -1) := if_pos h
    go_enter Try.func40, Try.ntmps40
    go_wp2_with (go_at_call 42; refine (isNaN_any _ _).mono ?_; rintro e w' ⟨rfl, rfl⟩)
    go_ret
    exact ⟨ret_of (by rw [HC.out]; rfl), rfl⟩
  · by_cases h2 : y < x
    · have HC : Hid (Go.Lib.compareInt x y = 1) := by show _ = _; rw [Go.Lib.compareInt, if_neg h, if_pos h2]
      go_enter Try.func40, Try.ntmps40
      go_wp2_with (go_at_call 42; refine (isNaN_any _ _).mono ?_; rintro e w' ⟨rfl, rfl⟩)
      go_ret
      exact ⟨ret_of (by rw [HC.out]; rfl), rfl⟩
    · have HC : Hid (Go.Lib.compareInt x y = 0) := by show _ = _; rw [Go.Lib.compareInt, if_neg h, if_neg h2]
      go_enter Try.func40, Try.ntmps40
      go_wp2_with (go_at_call 42; refine (isNaN_any _ _).mono ?_; rintro e w' ⟨rfl, rfl⟩)
      go_ret
      exact ⟨ret_of (by rw [HC.out]; rfl), rfl⟩
theorem compare_lt : ltOf (fun a b : Wk => Go.Lib.compareInt a.2 b.2) = wlt := by
  funext x y
  show decide ((if x.2 < y.2 then (-1 : Int) else if x.2 > y.2 then 1 else 0) < 0) = decide (x.2 < y.2)
  by_cases h : x.2 < y.2
  · simp [h]
  · rw [if_neg h]
    split <;> simp [h]

set_option maxHeartbeats 800000 in
theorem pace_any (x : Wk) (w : World) : Calls Try.prog 34 #[.agg #[.int .i64 x.1, .int .i64 x.2]] w fun e w' => e = .returned (.int .i64 x.2) ∧ Grown w w' := by
  have HG := Lib.hid ((Grown.refl w).alloc (.cells #[.int .i64 x.1, .int .i64 x.2] 52))
  go_enter Try.func34, Try.ntmps34
  go_wp2
  go_ret
  exact ⟨rfl, HG.out⟩

/-- The key by which people are sorted, as a value. -/
def paceV : Value := .func (.func 34) #[] #[]
set_option maxHeartbeats 3200000 in
set_option maxRecDepth 100000 in
theorem closure_any (x y : Wk) (B : Nat) (w : World) (hl : B < w.heap.size) (hB : w.cell? ⟨B, 0, none⟩ = some paceV) :
    Calls Try.prog 39 #[.agg #[.int .i64 x.1, .int .i64 x.2], .agg #[.int .i64 y.1, .int .i64 y.2], .pointer (some ⟨B, 0, none⟩)] w fun e w' => e = .returned (.int .i64 (Go.Lib.compareInt x.2 y.2)) ∧ Grown w w' := by
  have hg := ((Grown.refl w).alloc (.cells #[.int .i64 x.1, .int .i64 x.2] 52)).alloc (.cells #[.int .i64 y.1, .int .i64 y.2] 52)
  have hx := (Whole.fresh w 52 #[.int .i64 x.1, .int .i64 x.2]).alloc (.cells #[.int .i64 y.1, .int .i64 y.2] 52)
  have hy := Whole.fresh (w.alloc (.cells #[.int .i64 x.1, .int .i64 x.2] 52)) 52 #[.int .i64 y.1, .int .i64 y.2]
  rw [World.size_alloc] at hy
  have hk : ((w.alloc (.cells #[.int .i64 x.1, .int .i64 x.2] 52)).alloc (.cells #[.int .i64 y.1, .int .i64 y.2] 52)).cell? ⟨B, 0, none⟩ = some paceV := (hg.below.cell (p := ⟨B, 0, none⟩) hl).trans hB
  obtain ⟨x0, x1, -, -⟩ := hx.two
  obtain ⟨y0, y1, -, -⟩ := hy.two
  have HG := Lib.hid hg
  have HX := Lib.hid hx
  have HY := Lib.hid hy
  clear hg hx hy hB
  unfold paceV at *
  go_enter Try.func39, Try.ntmps39
  go_upto_region 1 with fail
  go_region_held3 (fun w' => w'.cell? ⟨B, 0, none⟩ = some (.func (.func 34) #[] #[]) ∧ (w'.cell? ⟨w.heap.size, 0, none⟩ = some (.int .i64 x.1) ∧ w'.cell? ⟨w.heap.size, 1, none⟩ = some (.int .i64 x.2)) ∧ (w'.cell? ⟨w.heap.size + 1, 0, none⟩ = some (.int .i64 y.1) ∧ w'.cell? ⟨w.heap.size + 1, 1, none⟩ = some (.int .i64 y.2))) (go_keep)
    (first | (go_at_call 34; refine (pace_any x _).mono ?_; rintro e wx ⟨rfl, hgx⟩; have hbx := hgx.below; have hkx := (hbx.cell (p := ⟨B, 0, none⟩) (by simp; omega)).trans hk; have hxx := HX.out.drew.below hbx; have hyx := HY.out.drew.below hbx; obtain ⟨xx0, xx1, -, -⟩ := hxx.two; obtain ⟨yx0, yx1, -, -⟩ := hyx.two; have HGX := Lib.hid (HG.out.drew.trans hgx); have hlx := HGX.out.below.size; clear hgx hbx) | (go_at_call 34; refine (pace_any y _).mono ?_; rintro e wy ⟨rfl, hgy⟩; have hby := hgy.below; have hky := (hby.cell (p := ⟨B, 0, none⟩) (Nat.lt_of_lt_of_le hl HGX.out.below.size)).trans hkx; have hxy := hxx.below hby; have hyy := hyx.below hby; obtain ⟨xy0, xy1, -, -⟩ := hxy.two; obtain ⟨yy0, yy1, -, -⟩ := hyy.two; have HGY := Lib.hid (HGX.out.trans hgy); clear hgy hby) | (go_at_call 40; refine (compare_any _ _ _).mono ?_; rintro e wc ⟨rfl, rfl⟩) | fail)
  go_wp2
  go_ret
  exact ⟨rfl, HGY.out⟩
end Go.Proofs.Ytpefgleipjjneaa
