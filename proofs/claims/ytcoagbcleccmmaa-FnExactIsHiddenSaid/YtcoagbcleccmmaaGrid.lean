/-
  What is proved: contracts of the laws' own helpers for lists of lists of numbers: their size, their copy, their comparison. Conditions: the given lists are read as they lie; a copy is of at most 1,048,576 numbers.
-/
import Derived.Test.YtcoagbcleccmmaaMark
namespace Go.Proofs.Ytcoagbcleccmmaa
open Go.RowKit

/-- One list among others: where it lies, its length, its room, its numbers. -/
structure RowV where
  A : Option Addr
  n : Nat
  c : Nat
  xs : List Int
def RowV.val (r : RowV) : Value := .slice r.A r.n r.c
def rowVals (rs : List RowV) : List Value := rs.map RowV.val
def rowNums (rs : List RowV) : List (List Int) := rs.map RowV.xs
theorem rowVals_len (rs : List RowV) : (rowVals rs).length = rs.length := by simp [rowVals]
theorem rowNums_len (rs : List RowV) : (rowNums rs).length = rs.length := by simp [rowNums]
def RowOk (w : World) (r : RowV) : Prop := Holds w r.A (nums r.xs) ∧ r.xs.length = r.n ∧ r.n ≤ 9223372036854775807
/-- From A on the world holds these lists. -/
def Grid (w : World) (A : Option Addr) (rs : List RowV) : Prop := Holds w A (rowVals rs) ∧ ∀ r ∈ rs, RowOk w r
theorem RowOk.below {w w' : World} {r : RowV} (h : RowOk w r) (hb : Below w.heap.size w w') : RowOk w' r := ⟨h.1.below hb, h.2⟩
theorem Grid.below {w w' : World} {A : Option Addr} {rs : List RowV} (h : Grid w A rs) (hb : Below w.heap.size w w') : Grid w' A rs := ⟨h.1.below hb, fun r hr => (h.2 r hr).below hb⟩
theorem Grid.alloc {w : World} {A : Option Addr} {rs : List RowV} (h : Grid w A rs) (o : Obj) : Grid (w.alloc o) A rs := h.below (below1 w o)
theorem Grid.drew {w : World} {A : Option Addr} {rs : List RowV} (h : Grid w A rs) : Grid w.drew A rs := h
theorem Grid.look {w : World} {A : Option Addr} {rs : List RowV} (h : Grid w A rs) {k : Nat} (hk : k < rs.length) :
    ∃ b o, A = some ⟨b, o, none⟩ ∧ b < w.heap.size ∧ w.cell? ⟨b, o + k, none⟩ = some (.slice rs[k].A rs[k].n rs[k].c) ∧ RowOk w rs[k] := by
  obtain ⟨b, o, hA, hb, hc⟩ := h.1.look (k := k) (by rw [rowVals_len]; exact hk)
  refine ⟨b, o, hA, hb, ?_, h.2 _ (List.getElem_mem hk)⟩
  rw [hc]
  simp [rowVals, RowV.val]

/-- The lengths of the first k lists together. -/
def part (rs : List RowV) (k : Nat) : Nat := ((rs.take k).map RowV.n).sum
/-- The length and all lengths together. -/
def total (rs : List RowV) : Nat := rs.length + part rs rs.length
theorem part_zero (rs : List RowV) : part rs 0 = 0 := rfl
theorem part_next {rs : List RowV} {k : Nat} (hk : k < rs.length) : part rs (k + 1) = part rs k + rs[k].n := by
  rw [part, part, List.take_succ_eq_append_getElem hk, List.map_append, List.sum_append]
  simp
theorem part_le {rs : List RowV} : ∀ {k : Nat}, k ≤ rs.length → ∀ {j : Nat}, j ≤ k → part rs j ≤ part rs k
  | 0, _, j, hj => by obtain rfl : j = 0 := by omega
                      exact Nat.le_refl _
  | k + 1, hk, j, hj => by
    rcases Nat.lt_or_ge j (k + 1) with h | h
    · have h1 := part_le (rs := rs) (k := k) (by omega) (j := j) (by omega)
      have h2 := part_next (rs := rs) (k := k) (by omega)
      omega
    · obtain rfl : j = k + 1 := by omega
      exact Nat.le_refl _
theorem total_row {rs : List RowV} {k : Nat} (hk : k < rs.length) : rs[k].n ≤ total rs := by
  have h1 := part_next hk
  have h2 := part_le (rs := rs) (Nat.le_refl _) (j := k + 1) (by omega)
  unfold total
  omega
theorem total_len (rs : List RowV) : rs.length ≤ total rs := by unfold total; omega
def totalLeft (rs : List RowV) (l : Int) : Int := if l < (total rs : Int) then -1 else l - (total rs : Int)
theorem totalLeft_no {rs : List RowV} {l : Int} {k : Nat} (hk : k ≤ rs.length) (h : l < (rs.length : Int) + (part rs k : Int)) : totalLeft rs l = -1 := by
  have h2 := part_le (rs := rs) (Nat.le_refl _) (j := k) hk
  rw [totalLeft, if_pos (by unfold total; omega)]
theorem totalLeft_yes {rs : List RowV} {l : Int} (h : (rs.length : Int) + (part rs rs.length : Int) ≤ l) : totalLeft rs l = l - ((rs.length : Int) + (part rs rs.length : Int)) := by
  rw [totalLeft, if_neg (by unfold total; omega)]
  unfold total
  omega

end Go.Proofs.Ytcoagbcleccmmaa
