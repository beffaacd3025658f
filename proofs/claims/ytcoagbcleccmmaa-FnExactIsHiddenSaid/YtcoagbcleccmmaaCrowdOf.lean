/-
  What is proved: contracts of the program's crowd of a list, of its slowest time, and that this time is the model's. Conditions: lists are read as they lie; at most eight people.
-/
import Derived.Test.YtcoagbcleccmmaaCrowd
namespace Go.Proofs.Ytcoagbcleccmmaa
open Go.RowKit

/-- Is person i on the list? -/
def has (l : List Int) (i : Nat) : Bool := l.any (· == (i : Int))
/-- The cells of the crowd of a list. -/
def crowdCells (l : List Int) : Array Value := #[.bool (has l 0), .bool (has l 1), .bool (has l 2), .bool (has l 3), .bool (has l 4), .bool (has l 5), .bool (has l 6), .bool (has l 7)]
theorem crowd_at (l : List Int) {i : Nat} (h : i < 8) : (crowdCells l)[i]? = some (.bool (has l i)) := by
  match i, h with
  | 0, _ => rfl
  | 1, _ => rfl
  | 2, _ => rfl
  | 3, _ => rfl
  | 4, _ => rfl
  | 5, _ => rfl
  | 6, _ => rfl
  | 7, _ => rfl
theorem has_snoc (l : List Int) (x : Int) (i : Nat) : has (l ++ [x]) i = (has l i || x == (i : Int)) := by simp [has]
theorem crowd_set (l : List Int) {x : Int} (h0 : 0 ≤ x) (h8 : x < 8) : (crowdCells l).setIfInBounds x.toNat (.bool true) = crowdCells (l ++ [x]) := by
  have h : x = 0 ∨ x = 1 ∨ x = 2 ∨ x = 3 ∨ x = 4 ∨ x = 5 ∨ x = 6 ∨ x = 7 := by omega
  rcases h with rfl | rfl | rfl | rfl | rfl | rfl | rfl | rfl <;> simp [crowdCells, has_snoc]

/-- The person before place k, or -1 at the start. -/
def lastOf (l : List Int) (k : Nat) : Int := if k = 0 then -1 else l.getD (k - 1) 0
theorem lastOf_zero (l : List Int) : lastOf l 0 = -1 := rfl
theorem lastOf_next (l : List Int) {k : Nat} (hk : k < l.length) : lastOf l (k + 1) = l[k] := by simp [lastOf, hk]
theorem lastOf_ge {l : List Int} {hi : Int} {k : Nat} (h : StepsTo l hi k) : -1 ≤ lastOf l k := by
  by_cases h0 : k = 0
  · simp [lastOf, h0]
  · have := (h (k - 1) (by omega)).1
    rw [lastOf, if_neg h0]
    omega
theorem step_of {l : List Int} {hi : Int} {k : Nat} (h : StepsTo l hi k) (hk : k < l.length) (h1 : lastOf l k < l[k]) (h2 : l[k] ≤ hi) : Step l hi k := by
  have hg := lastOf_ge h
  refine ⟨by rw [getD_at l hk]; omega, by rw [getD_at l hk]; exact h2, ?_⟩
  by_cases h0 : k = 0
  · exact .inl h0
  · right
    rw [lastOf, if_neg h0] at h1
    rw [getD_at l hk]
    exact h1
theorem nostep_last {l : List Int} {hi : Int} {k : Nat} (hk : k < l.length) (h : l[k] ≤ lastOf l k) : ¬ Step l hi k := by
  rintro ⟨h1, -, h3⟩
  rw [getD_at l hk] at h1 h3
  by_cases h0 : k = 0
  · subst h0
    rw [lastOf_zero] at h
    omega
  · rw [lastOf, if_neg h0] at h
    rcases h3 with h3 | h3
    · exact h0 h3
    · omega
theorem nostep_hi {l : List Int} {hi : Int} {k : Nat} (hk : k < l.length) (h : hi < l[k]) : ¬ Step l hi k := by
  rintro ⟨-, h2, -⟩
  rw [getD_at l hk] at h2
  omega
theorem trip_len {n : Nat} {s : Int} {l : List Int} (h : (l.length : Int) < 1 ∨ s < l.length) : isTrip n s l = false := by simp [isTrip, within_no h]
theorem trip_no {n : Nat} {s : Int} {l : List Int} {k : Nat} (hk : k < l.length) (h : ¬ Step l (n - 1) k) : isTrip n s l = false := by simp [isTrip, rising_no hk h]
theorem trip_yes {n : Nat} {s : Int} {l : List Int} (h1 : 1 ≤ (l.length : Int)) (h2 : (l.length : Int) ≤ s) (h : StepsTo l (n - 1) l.length) : isTrip n s l = true := by
  simp [isTrip, within_yes h1 h2, rising_yes h (Nat.le_refl _)]

theorem crowd_cells {w : World} {g : Nat} {ty : TypeId} {l : List Int} (h : Whole w g ty (crowdCells l)) :
    w.cell? ⟨g, 0, none⟩ = some (.bool (has l 0)) ∧ w.cell? ⟨g, 1, none⟩ = some (.bool (has l 1)) ∧ w.cell? ⟨g, 2, none⟩ = some (.bool (has l 2)) ∧ w.cell? ⟨g, 3, none⟩ = some (.bool (has l 3)) ∧
    w.cell? ⟨g, 4, none⟩ = some (.bool (has l 4)) ∧ w.cell? ⟨g, 5, none⟩ = some (.bool (has l 5)) ∧ w.cell? ⟨g, 6, none⟩ = some (.bool (has l 6)) ∧ w.cell? ⟨g, 7, none⟩ = some (.bool (has l 7)) :=
  ⟨(h.cell 0).trans rfl, (h.cell 1).trans rfl, (h.cell 2).trans rfl, (h.cell 3).trans rfl, (h.cell 4).trans rfl, (h.cell 5).trans rfl, (h.cell 6).trans rfl, (h.cell 7).trans rfl⟩
theorem crowd_open {w : World} {g : Nat} {ty : TypeId} {cs : Array Value} (h : Whole w g ty cs) :
    w.frozen? ⟨g, 0, none⟩ = false ∧ w.frozen? ⟨g, 1, none⟩ = false ∧ w.frozen? ⟨g, 2, none⟩ = false ∧ w.frozen? ⟨g, 3, none⟩ = false ∧ w.frozen? ⟨g, 4, none⟩ = false ∧ w.frozen? ⟨g, 5, none⟩ = false ∧ w.frozen? ⟨g, 6, none⟩ = false ∧ w.frozen? ⟨g, 7, none⟩ = false :=
  ⟨h.open_ 0, h.open_ 1, h.open_ 2, h.open_ 3, h.open_ 4, h.open_ 5, h.open_ 6, h.open_ 7⟩
theorem set_crowd {w : World} {g B : Nat} {a : World} {v0 v1 v2 v3 v4 v5 v6 v7 : Value} (h : Below B a w) (hg : B ≤ g) :
    Below B a ((((((((w.setCell ⟨g, 0, none⟩ v0).setCell ⟨g, 1, none⟩ v1).setCell ⟨g, 2, none⟩ v2).setCell ⟨g, 3, none⟩ v3).setCell ⟨g, 4, none⟩ v4).setCell ⟨g, 5, none⟩ v5).setCell ⟨g, 6, none⟩ v6).setCell ⟨g, 7, none⟩ v7) :=
  below_set (below_set (below_set (below_set (below_set (below_set (below_set (below_set h hg) hg) hg) hg) hg) hg) hg) hg

/-- What crowdOf hands back. -/
def CrowdPost (n : Nat) (s : Int) (l : List Int) (w : World) (e : Ending) (w' : World) : Prop :=
  ((isTrip n s l = true ∧ e = .returned (.tuple #[.agg (crowdCells l), .bool true])) ∨ (isTrip n s l = false ∧ e = .returned (.tuple #[.agg (crowdCells []), .bool false]))) ∧ Below w.heap.size w w'

/-- The slowest of the first k people who are on the list, as the program finds it. -/
def slowTo (xs l : List Int) : Nat → Int
  | 0 => 0
  | k + 1 => if has l k = true then max (slowTo xs l k) (xs.getD k 0) else slowTo xs l k
theorem slowTo_yes {xs l : List Int} {k : Nat} (h : has l k = true) : slowTo xs l (k + 1) = max (slowTo xs l k) (xs.getD k 0) := if_pos h
theorem slowTo_no {xs l : List Int} {k : Nat} (h : has l k = false) : slowTo xs l (k + 1) = slowTo xs l k := if_neg (by simp [h])
theorem slowTo_le (xs l : List Int) (k : Nat) (b : Int) : slowTo xs l k ≤ b ↔ 0 ≤ b ∧ ∀ i, i < k → has l i = true → xs.getD i 0 ≤ b := by
  induction k with
  | zero => simp [slowTo]
  | succ k ih =>
    cases h : has l k
    · rw [slowTo_no h, ih]
      refine ⟨fun hh => ⟨hh.1, fun i hi hp => ?_⟩, fun hh => ⟨hh.1, fun i hi => hh.2 i (by omega)⟩⟩
      rcases Nat.lt_succ_iff_lt_or_eq.1 hi with hl | rfl
      · exact hh.2 i hl hp
      · rw [h] at hp; cases hp
    · rw [slowTo_yes h]
      constructor
      · intro hh
        have h1 := ih.1 (show slowTo xs l k ≤ b by omega)
        refine ⟨h1.1, fun i hi hp => ?_⟩
        rcases Nat.lt_succ_iff_lt_or_eq.1 hi with hl | rfl
        · exact h1.2 i hl hp
        · omega
      · intro hh
        have h1 := ih.2 ⟨hh.1, fun i hi => hh.2 i (by omega)⟩
        have h2 := hh.2 k (by omega) h
        omega
theorem slowOf_le (xs l : List Int) (b : Int) : slowOf xs l ≤ b ↔ 0 ≤ b ∧ ∀ x ∈ l, xs.getD x.toNat 0 ≤ b := by
  rw [slowOf, foldl_le]
  simp
theorem mem_steps {l : List Int} {hi x : Int} (h : StepsTo l hi l.length) (hx : x ∈ l) : 0 ≤ x ∧ x ≤ hi := by
  obtain ⟨k, hk, rfl⟩ := List.getElem_of_mem hx
  have hs := h k hk
  exact ⟨by have := hs.1; rw [getD_at l hk] at this; exact this, by have := hs.2.1; rw [getD_at l hk] at this; exact this⟩
theorem has_iff {l : List Int} {i : Nat} : has l i = true ↔ (i : Int) ∈ l := by
  simp only [has, List.any_eq_true, beq_iff_eq]
  exact ⟨fun ⟨x, hx, he⟩ => he ▸ hx, fun h => ⟨_, h, rfl⟩⟩
theorem slow_same {xs l : List Int} {n : Nat} (hs : StepsTo l (n - 1) l.length) : slowTo xs l n = slowOf xs l := by
  apply Int.le_antisymm
  · rw [slowTo_le]
    have h := (slowOf_le xs l (slowOf xs l)).1 (Int.le_refl _)
    exact ⟨h.1, fun i _ hp => by have := h.2 _ (has_iff.1 hp); simpa using this⟩
  · rw [slowOf_le]
    have h := (slowTo_le xs l n (slowTo xs l n)).1 (Int.le_refl _)
    refine ⟨h.1, fun x hx => ?_⟩
    have hm := mem_steps hs hx
    obtain ⟨i, rfl⟩ := Int.eq_ofNat_of_zero_le hm.1
    exact h.2 i (by omega) (has_iff.2 hx)

end Go.Proofs.Ytcoagbcleccmmaa
