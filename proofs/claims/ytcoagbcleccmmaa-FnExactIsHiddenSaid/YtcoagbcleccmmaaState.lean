/-
  What is proved: contracts of the laws' own helpers for lists of truth values and states: their size, their copy, their comparison. Conditions: the given lists are read as they lie; a copy is of at most 1,048,576 values.
-/
import Derived.Test.YtcoagbcleccmmaaSzTo
import Derived.BigQuiet
import Derived.Deep.QuietTactic
import Derived.Handy
import Derived.WalkLawsBesides
import Derived.Outline
import Derived.Lib.Hide
namespace Go.Proofs.Ytcoagbcleccmmaa
open Go.RowKit

/-- Are two lists of numbers one and the same? -/
def sameBits (a b : List Bool) : Bool := a == b
theorem sameBits_yes {a b : List Bool} (h : a = b) : sameBits a b = true := by simp [sameBits, h]
theorem sameBits_no {a b : List Bool} (h : a ≠ b) : sameBits a b = false := by simp [sameBits, h]

theorem take_nextB {a b : List Bool} {k : Nat} (ha : k < a.length) (hb : k < b.length) (h : a.take k = b.take k) (he : a[k] = b[k]) : a.take (k + 1) = b.take (k + 1) := by
  rw [List.take_succ_eq_append_getElem ha, List.take_succ_eq_append_getElem hb, h, he]

/-- What stands in the copy behind k rounds: the first k numbers, zeros behind them. -/
def filledB (xs : List Bool) (k : Nat) : Array Value := (bits (xs.take k ++ List.replicate (xs.length - k) false)).toArray
theorem filledB_done (xs : List Bool) : filledB xs xs.length = (bits xs).toArray := by simp [filledB]
theorem filledB_at (xs : List Bool) {k : Nat} (h : k < xs.length) : (filledB xs k)[k]? = some (.bool false) := by
  simp only [filledB, bits, List.getElem?_toArray, List.getElem?_map]
  rw [List.getElem?_append_right (by simp; omega)]
  simp [List.length_take, Nat.min_eq_left (Nat.le_of_lt h), List.getElem?_replicate]
  omega
theorem filledB_next (xs : List Bool) {k : Nat} (h : k < xs.length) : (filledB xs k).setIfInBounds k (.bool xs[k]) = filledB xs (k + 1) := by
  apply Array.ext_getElem?
  intro j
  have hk : (xs.take k).length = k := by simp; omega
  have hk1 : (xs.take (k + 1)).length = k + 1 := by simp; omega
  rw [Array.getElem?_setIfInBounds]
  simp only [filledB, bits, List.getElem?_toArray, List.getElem?_map, List.size_toArray, List.length_map, List.length_append, hk, List.length_replicate]
  by_cases hj : k = j
  · subst hj
    rw [if_pos rfl, if_pos (by omega), List.getElem?_append_left (by omega)]
    simp [h]
  · rw [if_neg hj]
    by_cases hlt : j < k
    · rw [List.getElem?_append_left (by omega), List.getElem?_append_left (by omega)]
      simp [hlt, Nat.lt_succ_of_lt hlt]
    · rw [List.getElem?_append_right (by omega), List.getElem?_append_right (by omega), hk, hk1]
      simp only [List.getElem?_replicate]
      by_cases hn : j < xs.length
      · rw [if_pos (by omega), if_pos (by omega)]
      · rw [if_neg (by omega), if_neg (by omega)]

theorem made_falses (n : Nat) : madeCells (Value.bool false).cells (n * 1) = (bits (List.replicate n false)).toArray := by
  apply Array.ext_getElem?
  intro j
  simp [madeCells, bits, Value.cells, Nat.mod_one, Array.getElem?_range]
  by_cases h : j < n <;> simp [h]

theorem info_bool : (Try.prog.info? 4).map (fun i => (i.zero, i.size, i.bytes)) = some (some (.bool false), 1, 1) := by kernel_rfl

end Go.Proofs.Ytcoagbcleccmmaa
