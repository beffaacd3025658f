/-
  What is proved: the contract of the model's sorting (paSorted). Conditions: the list is read as it lies; at most 1,048,576 numbers.
-/
import Derived.Test.YtifaadjbkbdbnaaOwn
namespace Go.Proofs.Ytifaadjbkbdbnaa
open Go.RowKit

/-- The place at which a number goes among the first k of a list: behind the last one that is not greater. -/
def spot (l : List Int) (x : Int) : Nat → Nat
  | 0 => 0
  | k + 1 => if x < l.getD k 0 then spot l x k else k + 1
theorem spot_le (l : List Int) (x : Int) : ∀ k, spot l x k ≤ k
  | 0 => Nat.le_refl _
  | k + 1 => by
    rw [spot]
    split
    · have := spot_le l x k; omega
    · omega
theorem spot_down {l : List Int} {x : Int} {k : Nat} (h : x < l.getD k 0) : spot l x (k + 1) = spot l x k := if_pos h
theorem spot_here {l : List Int} {x : Int} {k : Nat} (h : ¬ x < l.getD k 0) : spot l x (k + 1) = k + 1 := if_neg h
def ins (l : List Int) (x : Int) : List Int := (l.take (spot l x l.length) ++ [x]) ++ l.drop (spot l x l.length)
theorem ins_len (l : List Int) (x : Int) : (ins l x).length = l.length + 1 := by
  have := spot_le l x l.length
  simp [ins]
  omega
def insTo (xs : List Int) (j : Nat) : List Int := (xs.take j).foldl ins []
theorem insTo_next {xs : List Int} {j : Nat} (h : j < xs.length) : insTo xs (j + 1) = ins (insTo xs j) xs[j] := by
  rw [insTo, List.take_succ_eq_append_getElem h, List.foldl_append]
  rfl
theorem insTo_len (xs : List Int) : ∀ {j : Nat}, j ≤ xs.length → (insTo xs j).length = j
  | 0, _ => rfl
  | j + 1, h => by rw [insTo_next h, ins_len, insTo_len xs (by omega)]
theorem own_lower {w : World} {base base' size : Nat} {e : TypeId} {v : Value} {n : Nat} {xs : List Value} (h : w.ownsRow base e size v n xs) (hb : base' ≤ base) : w.ownsRow base' e size v n xs := by
  obtain ⟨hl, h | ⟨g, cap, cur, hv, hg, r⟩⟩ := h
  · exact ⟨hl, .inl h⟩
  · exact ⟨hl, .inr ⟨g, cap, cur, hv, Nat.le_trans hb hg, r⟩⟩
theorem own_cells {w : World} {base : Nat} {e : TypeId} {g n c : Nat} {xs : List Value} (h : w.ownsRow base e 1 (.slice (some ⟨g, 0, none⟩) n c) n xs) : g < w.heap.size ∧ base ≤ g ∧ ∀ j u, xs[j]? = some u → w.cell? ⟨g, j, none⟩ = some u := by
  obtain ⟨hl, ⟨hv, -⟩ | ⟨g', cap, cur, hv, hg, hh, h1, h2, h3, h4⟩⟩ := h
  · cases hv
  · obtain ⟨rfl, rfl⟩ : g = g' ∧ c = cap := by simpa using hv
    have hw : Whole w g e cur := hh
    refine ⟨hw.lt, hg, fun j u hu => ?_⟩
    have hj : j < xs.length := (List.getElem?_eq_some_iff.1 hu).1
    rw [hw.cell j, ← hu]
    rw [hl] at hj
    have hj' : j < n := by omega
    have := congrArg (fun l : List Value => l[j]?) h4
    simpa [List.getElem?_take, hj, hj'] using this
theorem own_below {w w' : World} {base : Nat} {e : TypeId} {size : Nat} {v : Value} {n : Nat} {xs : List Value} (h : w.ownsRow base e size v n xs) (hb : Below w.heap.size w w') : w'.ownsRow base e size v n xs := by
  obtain ⟨hl, h | ⟨g, cap, cur, hv, hg, hh, r⟩⟩ := h
  · exact ⟨hl, .inl h⟩
  · exact ⟨hl, .inr ⟨g, cap, cur, hv, hg, (hb.block g (Array.getElem?_eq_some_iff.1 hh).1).trans hh, r⟩⟩

theorem cell_grown {w w' : World} {row : Option Nat} {g i : Nat} (h : w.grownBy w' row) (hl : g < w.heap.size) (hn : row ≠ some g) : w'.cell? ⟨g, i, none⟩ = w.cell? ⟨g, i, none⟩ := by
  have h1 := h.block g hl (fun e => hn e.symm)
  simp only [World.cell?, h1]

end Go.Proofs.Ytifaadjbkbdbnaa
