/-
  What is proved: the contract of the program's squadOf: the people with some times in their order. Conditions: the times are read as they lie.
-/
import Derived.Test.YtpefgleipjjneaaSquadB
namespace Go.Proofs.Ytpefgleipjjneaa
open Go.RowKit

/-- Times of people of whom two may cross at once. -/
def prOk (xs : List Int) : Bool := within xs.length 1 12 && allIn xs 1 1000
theorem prOk_len {xs : List Int} (h : xs.length < 1 ∨ 12 < xs.length) : prOk xs = false := by
  rw [prOk, within_no (by omega)]
  rfl
theorem prOk_time {xs : List Int} {k : Nat} (h : k < xs.length) (ht : xs[k] < 1 ∨ 1000 < xs[k]) : prOk xs = false := by
  rw [prOk, allIn_no h (within_no ht), Bool.and_false]
theorem prOk_all {xs : List Int} (h1 : 1 ≤ xs.length) (h2 : xs.length ≤ 12) (h : ∀ j (hj : j < xs.length), 1 ≤ xs[j] ∧ xs[j] ≤ 1000) : prOk xs = true := by
  rw [prOk, within_yes (by omega) (by omega), Bool.true_and, allIn_iff]
  intro y hy
  obtain ⟨j, hj, rfl⟩ := List.getElem_of_mem hy
  exact h j hj
theorem prOk_parts {xs : List Int} (h : prOk xs = true) : 1 ≤ xs.length ∧ xs.length ≤ 12 ∧ ∀ y ∈ xs, 1 ≤ y ∧ y ≤ 1000 := by
  simp only [prOk, Bool.and_eq_true] at h
  have h1 := within_iff.1 h.1
  exact ⟨by omega, by omega, (allIn_iff _ _ _).1 h.2⟩
/-- The people in the order in which they are told. -/
def plain (xs : List Int) (k : Nat) : List Wk := mk xs ((List.range k).map Int.ofNat)
theorem plain_len (xs : List Int) (k : Nat) : (plain xs k).length = k := by simp [plain, mk]
theorem plain_next (xs : List Int) (k : Nat) : plain xs (k + 1) = plain xs k ++ [((k : Int), tm xs k)] := by
  simp [plain, mk, List.range_succ]
theorem holdsK_squad {w : World} {g : Nat} {W : List Wk} {n : Int} (h : Whole w g 55 (squadCells W n)) (h12 : W.length ≤ 12) : Go.Sort.HoldsK encW 2 w g 0 W.toArray := by
  intro t ht
  refine ⟨?_, h.open_ _⟩
  rw [Go.Sort.size_flatK] at ht
  have hk : t / 2 < W.length := by simp at ht; omega
  rw [Nat.zero_add, h.cell t, Go.Sort.get_flatK _ _ _ _ ht]
  have hw : W.toArray[t / 2]! = wk W (t / 2) := by simp [wk, hk]
  rw [hw]
  rcases Nat.mod_two_eq_zero_or_one t with hm | hm
  · rw [hm]
    have := squad_who W n (k := t / 2) (by omega)
    rwa [show 2 * (t / 2) = t by omega] at this
  · rw [hm]
    have := squad_time W n (k := t / 2) (by omega)
    rwa [show 2 * (t / 2) + 1 = t by omega] at this
theorem put_squad {W : List Wk} {n : Int} {r : Array Wk} (h12 : W.length ≤ 12) (hr : r.size = W.length) : Go.Sort.putCells id 0 (Go.Sort.flatK encW 2 r) (squadCells W n) = squadCells r.toList n := by
  have hs : (Go.Sort.putCells id 0 (Go.Sort.flatK encW 2 r) (squadCells W n)).size = 25 := by simp [Go.Sort.putCells, squad_size]
  apply Array.ext_getElem?
  intro t
  rcases Nat.lt_or_ge t 25 with h25 | h25
  · have hat : (Go.Sort.putCells id 0 (Go.Sort.flatK encW 2 r) (squadCells W n))[t]? = ((squadCells W n)[t]?).map fun x => if t < r.size * 2 then (Go.Sort.flatK encW 2 r)[t]! else x := by
      simp [Go.Sort.putCells, Go.Sort.size_flatK]
    rw [hat]
    by_cases ht : t < r.size * 2
    · have hk : t / 2 < r.size := by omega
      have hw : r[t / 2]! = wk r.toList (t / 2) := by simp [wk, hk, getElem!_def]
      have hs1 : (squadCells W n)[t]? = some ((squadCells W n)[t]'(by rw [squad_size]; exact h25)) := Array.getElem?_eq_getElem _
      rw [hs1, Option.map_some, if_pos ht, Go.Sort.get_flatK _ _ _ _ ht, hw]
      rcases Nat.mod_two_eq_zero_or_one t with hm | hm
      · have := squad_who r.toList n (k := t / 2) (by omega)
        rw [show 2 * (t / 2) = t by omega] at this
        rw [this, hm]
        rfl
      · have := squad_time r.toList n (k := t / 2) (by omega)
        rw [show 2 * (t / 2) + 1 = t by omega] at this
        rw [this, hm]
        rfl
    · simp only [if_neg ht, Option.map_id']
      by_cases h24 : t = 24
      · subst h24; rfl
      · have hz : wk W (t / 2) = wk r.toList (t / 2) := by
          have h1 : W.length ≤ t / 2 := by omega
          have h2 : r.toList.length ≤ t / 2 := by simp; omega
          simp [wk, List.getD_eq_getElem?_getD, List.getElem?_eq_none h1, List.getElem?_eq_none h2]
        rcases Nat.mod_two_eq_zero_or_one t with hm | hm
        · have a := squad_who W n (k := t / 2) (by omega)
          have b := squad_who r.toList n (k := t / 2) (by omega)
          rw [show 2 * (t / 2) = t by omega] at a b
          rw [a, b, hz]
        · have a := squad_time W n (k := t / 2) (by omega)
          have b := squad_time r.toList n (k := t / 2) (by omega)
          rw [show 2 * (t / 2) + 1 = t by omega] at a b
          rw [a, b, hz]
  · rw [Array.getElem?_eq_none (by omega), Array.getElem?_eq_none (by rw [squad_size]; exact h25)]
theorem whole_sorted {w : World} {g m : Nat} {os : Array Obj} {W : List Wk} {n : Int} {r : Array Wk} (h : Whole w g 55 (squadCells W n)) (h12 : W.length ≤ 12) (hr : r.size = W.length) : Whole (sortWorldK encW 2 w g 0 m r os) g 55 (squadCells r.toList n) := by
  rw [← put_squad h12 hr]
  have hg := h.lt
  unfold Whole at h ⊢
  unfold sortWorldK Go.Sort.putRowK
  rw [Go.Sort.heap_grow_old _ _ (by simpa [Go.Sort.putRow, Go.Sort.mapBlock, Go.Sort.ahead] using hg)]
  simp only [Go.Sort.putRow, Go.Sort.mapBlock, Go.Sort.ahead, Array.getElem?_modify, h]
  rfl
theorem others_sorted {w : World} {g m : Nat} {os : Array Obj} {r : Array Wk} : (sortWorldK encW 2 w g 0 m r os).os = w.os ∧ (sortWorldK encW 2 w g 0 m r os).tape = w.tape ∧ (sortWorldK encW 2 w g 0 m r os).output = w.output ∧ w.heap.size ≤ (sortWorldK encW 2 w g 0 m r os).heap.size ∧ ∀ k, k < w.heap.size → k ≠ g → (sortWorldK encW 2 w g 0 m r os).heap[k]? = w.heap[k]? := by
  refine ⟨rfl, rfl, rfl, size_sortWorldK_c _ _ _ _ _ _ _ _, fun k hk hne => ?_⟩
  unfold sortWorldK Go.Sort.putRowK
  rw [Go.Sort.heap_grow_old _ _ (by simpa [Go.Sort.putRow, Go.Sort.mapBlock, Go.Sort.ahead] using hk)]
  have hne' : ¬ g = k := fun h => hne h.symm
  simp only [Go.Sort.putRow, Go.Sort.mapBlock, Go.Sort.ahead, Array.getElem?_modify, if_neg hne']

/-- What squadOf hands back. -/
def SquadPost (xs : List Int) (w : World) (e : Ending) (w' : World) : Prop :=
  ((prOk xs = true ∧ e = .returned (.tuple #[.agg (squadCells (mk xs (ord xs)) xs.length), .bool true])) ∨ (prOk xs = false ∧ e = .returned (.tuple #[.agg (squadCells [] 0), .bool false]))) ∧ Below w.heap.size w w'
end Go.Proofs.Ytpefgleipjjneaa
