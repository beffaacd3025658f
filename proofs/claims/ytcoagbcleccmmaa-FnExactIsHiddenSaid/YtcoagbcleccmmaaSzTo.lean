/-
  What is proved: contracts of the laws' own helpers for lists of numbers and parties: their size, their copy, their comparison. Conditions: the given lists are read as they lie; a copy is of at most 1,048,576 numbers.
-/
import Derived.Test.YtcoagbcleccmmaaMem
import Derived.BigQuiet
import Derived.Deep.QuietTactic
import Derived.Handy
import Derived.WalkLawsBesides
import Derived.Outline
import Derived.Lib.Hide
namespace Go.Proofs.Ytcoagbcleccmmaa
open Go.RowKit

/-- Are two lists of numbers one and the same? -/
def sameInts (a b : List Int) : Bool := a == b
theorem sameInts_yes {a b : List Int} (h : a = b) : sameInts a b = true := by simp [sameInts, h]
theorem sameInts_no {a b : List Int} (h : a ≠ b) : sameInts a b = false := by simp [sameInts, h]

theorem take_next {a b : List Int} {k : Nat} (ha : k < a.length) (hb : k < b.length) (h : a.take k = b.take k) (he : a[k] = b[k]) : a.take (k + 1) = b.take (k + 1) := by
  rw [List.take_succ_eq_append_getElem ha, List.take_succ_eq_append_getElem hb, h, he]

set_option maxHeartbeats 400000 in
theorem eqIntS_any (A B : Option Addr) (n m c d : Nat) (xs ys : List Int) (w : World) (hA : Holds w A (nums xs)) (hB : Holds w B (nums ys)) (hx : xs.length = n) (hy : ys.length = m)
    (hn : n ≤ 9223372036854775807) (hm : m ≤ 9223372036854775807) :
    Calls Try.prog 26 #[.slice A n c, .slice B m d] w fun e w' => e = .returned (.bool (sameInts xs ys)) ∧ ∃ k, w' = w.drewN k := by
  subst hx hy
  by_cases hl : xs.length = ys.length
  · have hl' : ((xs.length : Int) != (ys.length : Int)) = false := by simp [hl]
    have HL := Lib.hid hl
    clear hl
    go_enter Try.func26, Try.ntmps26
    go_wp2
    go_loopw [5] (fun i wr => ∃ k q : Nat, k ≤ xs.length ∧ i = .int .i64 k ∧ wr = w.drewN q ∧ xs.take k = ys.take k) (fun i _ => xs.length - (intOf i).toNat)
    case atStart => exact ⟨0, 0, Nat.zero_le _, rfl, rfl, rfl⟩
    case round =>
      obtain ⟨k, q, hk, rfl, rfl, ht⟩ := hrel
      have HT := Lib.hid ht
      clear ht
      by_cases hlt : k < xs.length
      · have hlt' : k < ys.length := by have := HL.out; omega
        obtain ⟨b, o, rfl, hb, hc⟩ := hA.look (k := k) (by simpa [nums] using hlt)
        obtain ⟨b', o', rfl, hb', hc'⟩ := hB.look (k := k) (by simpa [nums] using hlt')
        simp only [nums, List.getElem_map] at hc hc'
        by_cases he : xs[k] = ys[k]
        · have hne : (xs[k] != ys[k]) = false := by simp [he]
          have HE := Lib.hid he
          clear he
          go_wp2
          go_quiet (fail)
          go_wp2
          go_roundw
          case rel => exact ⟨k + 1, _, by omega, by go_num, rfl, take_next hlt hlt' HT.out HE.out⟩
          case measure => simp [intOf]; omega
        · have hne : (xs[k] != ys[k]) = true := by simp [he]
          have HN := Lib.hid (sameInts_no (fun h : xs = ys => he (by subst h; rfl)))
          clear he
          go_wp2
          go_quiet (fail)
          go_wp2
          go_ret
          exact ⟨by rw [HN.out]; rfl, q + _, World.drewN_drewN _ _ _⟩
      · have h1 := HT.out
        rw [List.take_of_length_le (by omega), List.take_of_length_le (by have := HL.out; omega)] at h1
        have HN := Lib.hid (sameInts_yes h1)
        clear h1
        go_wp2
        go_ret
        exact ⟨by rw [HN.out]; rfl, _, rfl⟩
  · have hl' : ((xs.length : Int) != (ys.length : Int)) = true := by simp; omega
    have HN := Lib.hid (sameInts_no (fun h : xs = ys => hl (by rw [h])))
    clear hl
    go_enter Try.func26, Try.ntmps26
    go_wp2
    go_ret
    exact ⟨by rw [HN.out]; rfl, 0, rfl⟩

/-- What stands in the copy behind k rounds: the first k numbers, zeros behind them. -/
def filled (xs : List Int) (k : Nat) : Array Value := (nums (xs.take k ++ List.replicate (xs.length - k) 0)).toArray
theorem filled_done (xs : List Int) : filled xs xs.length = (nums xs).toArray := by simp [filled]
theorem filled_at (xs : List Int) {k : Nat} (h : k < xs.length) : (filled xs k)[k]? = some (.int .i64 0) := by
  simp only [filled, nums, List.getElem?_toArray, List.getElem?_map]
  rw [List.getElem?_append_right (by simp; omega)]
  simp [List.length_take, Nat.min_eq_left (Nat.le_of_lt h), List.getElem?_replicate]
  omega
theorem filled_next (xs : List Int) {k : Nat} (h : k < xs.length) : (filled xs k).setIfInBounds k (.int .i64 xs[k]) = filled xs (k + 1) := by
  apply Array.ext_getElem?
  intro j
  have hk : (xs.take k).length = k := by simp; omega
  have hk1 : (xs.take (k + 1)).length = k + 1 := by simp; omega
  rw [Array.getElem?_setIfInBounds]
  simp only [filled, nums, List.getElem?_toArray, List.getElem?_map, List.size_toArray, List.length_map, List.length_append, hk, List.length_replicate]
  by_cases hj : k = j
  · subst hj
    rw [if_pos rfl, if_pos (by omega), List.getElem?_append_left (by omega)]
    simp [h]
  · rw [if_neg hj]
    by_cases hlt : j < k
    · rw [List.getElem?_append_left (by omega), List.getElem?_append_left (by omega)]
      simp [hlt, Nat.lt_succ_of_lt hlt]
    · rw [List.getElem?_append_right (by omega), List.getElem?_append_right (by omega), hk, hk1]
      simp only [List.getElem?_replicate]
      by_cases hn : j < xs.length
      · rw [if_pos (by omega), if_pos (by omega)]
      · rw [if_neg (by omega), if_neg (by omega)]

theorem made_zeros (n : Nat) : madeCells (Value.int .i64 0).cells (n * 1) = (nums (List.replicate n 0)).toArray := by
  apply Array.ext_getElem?
  intro j
  simp [madeCells, nums, Value.cells, Nat.mod_one, Array.getElem?_range]
  by_cases h : j < n <;> simp [h]

theorem info_int : (Try.prog.info? 3).map (fun i => (i.zero, i.size, i.bytes)) = some (some (.int .i64 0), 1, 8) := by kernel_rfl

set_option maxHeartbeats 400000 in
theorem toIntS_any (A : Option Addr) (n c : Nat) (xs : List Int) (w : World) (hA : Holds w A (nums xs)) (hx : xs.length = n) (hn : n ≤ 1048576) :
    Calls Try.prog 24 #[.slice A n c] w fun e w' => e = .returned (.slice (some ⟨w.heap.size, 0, none⟩) n n) ∧ Whole w' w.heap.size 3 (nums xs).toArray ∧ Below w.heap.size w w' ∧ w'.heap.size = w.heap.size + 1 := by
  subst hx
  obtain ⟨i0, hi, hz0, hz1, hz2⟩ := info_parts info_int
  have hmk : ∀ W : World, (Instr.makeSlice 39 (.int .i64 (xs.length : Int)) (.int .i64 (xs.length : Int))).run Try.prog W = .ok (.slice (some ⟨W.heap.size, 0, none⟩) xs.length xs.length) (W.alloc (.cells (filled xs 0) 3)) := by
    intro W
    have h := run_make (P := Try.prog) W 39 3 i0 _ Try.underlying39 hi hz0 .i64 .i64 xs.length xs.length (by omega) (by omega) (by rw [hz2]; omega) (by omega)
    simp only [Int.toNat_natCast, hz1, made_zeros] at h
    rw [h]
    simp [filled]
  clear hi hz0 hz1 hz2
  go_enter Try.func24, Try.ntmps24
  go_wp2
  have h0 := Whole.fresh w 3 (filled xs 0)
  have hb0 : Below w.heap.size w (w.alloc (.cells (filled xs 0) 3)) := (Below.refl _ _).alloc (Nat.le_refl _) _
  go_loopw [4] (fun i wr => ∃ k : Nat, k ≤ xs.length ∧ i = .int .i64 k ∧ Whole wr w.heap.size 3 (filled xs k) ∧ Below w.heap.size w wr ∧ wr.heap.size = w.heap.size + 1) (fun i _ => xs.length - (intOf i).toNat)
  case atStart => exact ⟨0, Nat.zero_le _, rfl, h0, hb0, by simp⟩
  case round =>
    obtain ⟨k, hk, rfl, hw, hb, hs⟩ := hrel
    clear hmk h0 hb0
    by_cases hlt : k < xs.length
    · obtain ⟨b, o, rfl, hbl, hc⟩ := (hA.below hb).look (k := k) (by simpa [nums] using hlt)
      simp only [nums, List.getElem_map] at hc
      have hcell : wr.cell? ⟨w.heap.size, k, none⟩ = some (.int .i64 0) := (hw.cell k).trans (filled_at xs hlt)
      have hfr := hw.open_ k
      have hnext := hw.set_ k (.int .i64 xs[k])
      rw [filled_next xs hlt] at hnext
      have HS := Lib.hid hs
      clear hs
      go_wp2
      go_roundw
      case rel => exact ⟨k + 1, by omega, by go_num, hnext, hb.setCell (Nat.le_refl _) _, by simp [World.setCell]; exact HS.out⟩
      case measure => simp [intOf]; omega
    · have hkn : k = xs.length := by omega
      subst hkn
      rw [filled_done] at hw
      have HS := Lib.hid hs
      clear hs
      go_wp2
      go_ret
      exact ⟨rfl, hw, hb, HS.out⟩

/-- The same, the new row's block told by a letter. -/
theorem toIntS_own (A : Option Addr) (n c : Nat) (xs : List Int) (w : World) (hA : Holds w A (nums xs)) (hx : xs.length = n) (hn : n ≤ 1048576) :
    Calls Try.prog 24 #[.slice A n c] w fun e w' => ∃ g, e = .returned (.slice (some ⟨g, 0, none⟩) n n) ∧ w.heap.size ≤ g ∧ Whole w' g 3 (nums xs).toArray ∧ Below w.heap.size w w' :=
  (toIntS_any A n c xs w hA hx hn).mono fun _ _ ⟨he, hw, hb, _⟩ => ⟨_, he, Nat.le_refl _, hw, hb⟩

end Go.Proofs.Ytcoagbcleccmmaa
