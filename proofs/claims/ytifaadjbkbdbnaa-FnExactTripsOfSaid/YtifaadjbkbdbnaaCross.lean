/-
  What is proved: contracts of a trip made, by the model (paCross) and by the program (cross). Conditions: the trip is one; at most eight people.
-/
import Derived.Test.YtifaadjbkbdbnaaPlay
import Derived.Test.YtifaadjbkbdbnaaLast
import Derived.Deep.RegionLawGrows
namespace Go.Proofs.Ytifaadjbkbdbnaa
open Go.RowKit

/-- One cell of the place while the first k people are looked at. -/
def crossAt (bs : List Bool) (l : List Int) (k i : Nat) : Bool := if i < k then bs.getD i false != has l i else bs.getD i false
def crossTo (bs : List Bool) (t : Bool) (l : List Int) (k : Nat) : Array Value := #[.bool (crossAt bs l k 0), .bool (crossAt bs l k 1), .bool (crossAt bs l k 2), .bool (crossAt bs l k 3), .bool (crossAt bs l k 4), .bool (crossAt bs l k 5), .bool (crossAt bs l k 6), .bool (crossAt bs l k 7), .bool t]
theorem crossAt_here (bs : List Bool) (l : List Int) (k : Nat) : crossAt bs l k k = bs.getD k false := by simp [crossAt]
theorem cross_get (bs : List Bool) (t : Bool) (l : List Int) {k : Nat} (h : k < 8) : (crossTo bs t l k)[k]? = some (.bool (bs.getD k false)) := by
  rw [← crossAt_here bs l k]
  match k, h with
  | 0, _ => rfl
  | 1, _ => rfl
  | 2, _ => rfl
  | 3, _ => rfl
  | 4, _ => rfl
  | 5, _ => rfl
  | 6, _ => rfl
  | 7, _ => rfl
theorem cross_skip (bs : List Bool) (t : Bool) {l : List Int} {k : Nat} (h : has l k = false) : crossTo bs t l (k + 1) = crossTo bs t l k := by
  have hh : ∀ i, crossAt bs l (k + 1) i = crossAt bs l k i := by
    intro i
    unfold crossAt
    by_cases h1 : i < k
    · rw [if_pos h1, if_pos (by omega)]
    · by_cases h2 : i = k
      · subst h2; rw [if_pos (by omega), if_neg h1, h]; cases bs.getD i false <;> rfl
      · rw [if_neg h1, if_neg (by omega)]
  simp only [crossTo, hh]
theorem cross_turn (bs : List Bool) (t : Bool) {l : List Int} {k : Nat} (hk : k < 8) (h : has l k = true) : (crossTo bs t l k).setIfInBounds k (.bool (!(bs.getD k false))) = crossTo bs t l (k + 1) := by
  have h1 : crossAt bs l (k + 1) k = !(bs.getD k false) := by
    unfold crossAt; rw [if_pos (by omega), h]; cases bs.getD k false <;> rfl
  have hh : ∀ i, i ≠ k → crossAt bs l (k + 1) i = crossAt bs l k i := by
    intro i hi
    unfold crossAt
    by_cases h1 : i < k
    · rw [if_pos h1, if_pos (by omega)]
    · rw [if_neg h1, if_neg (by omega)]
  rw [← h1]
  unfold crossTo
  match k, hk with
  | 0, _ => simp [hh]
  | 1, _ => simp [hh]
  | 2, _ => simp [hh]
  | 3, _ => simp [hh]
  | 4, _ => simp [hh]
  | 5, _ => simp [hh]
  | 6, _ => simp [hh]
  | 7, _ => simp [hh]
theorem cross_start (bs : List Bool) (t : Bool) (l : List Int) : placeCells bs t = crossTo bs t l 0 := by simp [placeCells, crossTo, crossAt]
theorem cross_end {bs : List Bool} {t : Bool} {l : List Int} (h : ∀ i, bs.length ≤ i → has l i = false) : (crossTo bs t l 8).setIfInBounds 8 (.bool (!t)) = placeCells (flipped bs l) (!t) := by
  have hh : ∀ i, i < 8 → crossAt bs l 8 i = (flipped bs l).getD i false := by
    intro i hi
    rw [crossAt, if_pos hi]
    by_cases h1 : i < bs.length
    · rw [flipped_get bs l h1]
    · rw [flipped_out bs l (by omega), h i (by omega), List.getD_eq_getElem?_getD, List.getElem?_eq_none (by omega)]; rfl
  simp only [crossTo, placeCells, hh 0 (by omega), hh 1 (by omega), hh 2 (by omega), hh 3 (by omega), hh 4 (by omega), hh 5 (by omega), hh 6 (by omega), hh 7 (by omega)]
  rfl
theorem cross_one (bs : List Bool) (t : Bool) (l : List Int) (k : Nat) : (crossTo bs t l k).all (·.oneCell') = true := by simp [crossTo, Value.oneCell']

set_option maxHeartbeats 1600000 in
theorem cross_any (bs : List Bool) (l : List Int) (t : Bool) (w : World) (h : ∀ i, bs.length ≤ i → has l i = false) :
    Calls Try.prog 146 #[.agg (placeCells bs t), .agg (crowdCells l)] w fun e w' => e = .returned (.agg (placeCells (flipped bs l) (!t))) ∧ Below w.heap.size w w' := by
  have HEND := Lib.hid (cross_end (t := t) h)
  clear h
  have h0 := ((Whole.fresh w 94 (placeCells bs t)).alloc (.cells (crowdCells l) 92)).alloc (.cells (placeCells [] false) 94)
  have h2 := Whole.fresh ((w.alloc (.cells (placeCells bs t) 94)).alloc (.cells (crowdCells l) 92)) 94 (placeCells [] false)
  simp only [World.size_alloc] at h2
  have hb := below3 w (.cells (placeCells bs t) 94) (.cells (crowdCells l) 92) (.cells (placeCells [] false) 94)
  rw [cross_start bs t l] at h0
  have H0 := Lib.hid h0
  have H2 := Lib.hid h2
  have HB := Lib.hid hb
  clear h0 h2 hb
  unfold crowdCells at *
  go_enter Try.func146, Try.ntmps146
  go_wp2
  go_loopw [9] (fun i wr => ∃ k : Nat, k ≤ 8 ∧ i = .int .i64 k ∧ Whole wr w.heap.size 94 (crossTo bs t l k) ∧ Whole wr (w.heap.size + 1 + 1) 94 (placeCells [] false) ∧ Below w.heap.size w wr) (fun i _ => 8 - (intOf i).toNat)
  case atStart => exact ⟨0, Nat.zero_le _, rfl, H0.out, H2.out, HB.out⟩
  case round =>
    obtain ⟨k, hk, rfl, g0, g2, hb⟩ := hrel
    clear H0 H2 HB
    have hl0 := g0.lt
    have hl2 := g2.lt
    by_cases hlt : k < 8
    · have hix := index_crowd l hlt
      have hkk : (k : Int) < 8 := by omega
      cases hp : has l k
      · rw [hp] at hix
        have HN := Lib.hid (cross_skip bs t hp)
        clear hp
        go_wp2
        go_roundw
        case rel => exact ⟨k + 1, by omega, by go_num, by rw [HN.out]; exact g0, g2, hb⟩
        case measure => simp [intOf]; omega
      · rw [hp] at hix
        have hcell := (g0.cell k).trans (cross_get bs t l hlt)
        have hfr := g0.open_ k
        have hs := g0.set_ k (.bool (!(bs.getD k false)))
        rw [cross_turn bs t hlt hp] at hs
        have HS := Lib.hid hs
        have HF := Lib.hid (g2.off (b := w.heap.size) (o := k) (u := .bool (!(bs.getD k false))) (by omega))
        clear hp hs
        go_wp2
        go_roundw
        case rel => exact ⟨k + 1, by omega, by go_num, HS.out, HF.out, below_set hb (Nat.le_refl _)⟩
        case measure => simp [intOf]; omega
    · have hk8 : k = 8 := by omega
      subst hk8
      have hcell := (g0.cell 8).trans (show (crossTo bs t l 8)[8]? = some (.bool t) from rfl)
      have hfr := g0.open_ 8
      have hs := g0.set_ 8 (.bool (!t))
      rw [HEND.out] at hs
      have hg2 := g2.off (b := w.heap.size) (o := 8) (u := .bool (!t)) (by omega)
      have hbb := below_set (o := 8) (u := .bool (!t)) hb (Nat.le_refl w.heap.size)
      clear g0 g2 hb
      go_wp2_with (first | (refine wpList_load_row rfl 94 (.tmp 2) rfl w.heap.size rfl 94 (placeCells (flipped bs l) (!t)) (0, 0) _ hs Try.underlying94 rfl size_place ?_) | (refine wpList_store_whole rfl 94 (.tmp 4) (.tmp 29) rfl (w.heap.size + 1 + 1) (placeCells (flipped bs l) (!t)) rfl rfl 94 (placeCells [] false) hg2 size_place rfl (place_one _ _) ?_; intro w2 hw2 ho2))
      have hb2 := ho2.below hbb (by omega)
      obtain ⟨r0, r1, r2, r3, r4, r5, r6, r7, r8⟩ := place_cells hw2
      refine bodyPost_ret (v := .agg (placeCells (flipped bs l) (!t))) (by simp [results, Try.results146, go_sem, r0, r1, r2, r3, r4, r5, r6, r7, r8, placeCells]) rfl ⟨rfl, hb2⟩
end Go.Proofs.Ytifaadjbkbdbnaa
