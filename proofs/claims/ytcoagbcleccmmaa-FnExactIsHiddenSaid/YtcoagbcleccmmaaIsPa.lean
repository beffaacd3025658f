/-
  What is proved: contracts of the least and the greatest number of a list, and of the program's own test of a party. Conditions: the party's times are read as they lie.
-/
import Derived.Test.YtcoagbcleccmmaaParty
namespace Go.Proofs.Ytcoagbcleccmmaa
open Go.RowKit

def leastOf : List Int → Int | [] => 0 | x :: l => l.foldl min x
def mostOf : List Int → Int | [] => 0 | x :: l => l.foldl max x
theorem leastOf_snoc {l : List Int} (h : l ≠ []) (x : Int) : leastOf (l ++ [x]) = min (leastOf l) x := by
  cases l with
  | nil => exact absurd rfl h
  | cons y l => simp [leastOf, List.foldl_append]
theorem mostOf_snoc {l : List Int} (h : l ≠ []) (x : Int) : mostOf (l ++ [x]) = max (mostOf l) x := by
  cases l with
  | nil => exact absurd rfl h
  | cons y l => simp [mostOf, List.foldl_append]
theorem le_foldl (l : List Int) (x b : Int) : b ≤ l.foldl min x ↔ b ≤ x ∧ ∀ y ∈ l, b ≤ y := by
  induction l generalizing x with
  | nil => simp
  | cons y l ih =>
    simp only [List.foldl_cons, ih, List.mem_cons, forall_eq_or_imp]
    constructor
    · rintro ⟨h, k⟩; exact ⟨by omega, by omega, k⟩
    · rintro ⟨h, k, m⟩; exact ⟨by omega, m⟩
theorem foldl_le (l : List Int) (x b : Int) : l.foldl max x ≤ b ↔ x ≤ b ∧ ∀ y ∈ l, y ≤ b := by
  induction l generalizing x with
  | nil => simp
  | cons y l ih =>
    simp only [List.foldl_cons, ih, List.mem_cons, forall_eq_or_imp]
    constructor
    · rintro ⟨h, k⟩; exact ⟨by omega, by omega, k⟩
    · rintro ⟨h, k, m⟩; exact ⟨by omega, m⟩
theorem le_leastOf {l : List Int} (h : l ≠ []) (b : Int) : b ≤ leastOf l ↔ ∀ y ∈ l, b ≤ y := by
  cases l with
  | nil => exact absurd rfl h
  | cons x l => simp [leastOf, le_foldl]
theorem mostOf_le {l : List Int} (h : l ≠ []) (b : Int) : mostOf l ≤ b ↔ ∀ y ∈ l, y ≤ b := by
  cases l with
  | nil => exact absurd rfl h
  | cons x l => simp [mostOf, foldl_le]
theorem allIn_iff (l : List Int) (lo hi : Int) : allIn l lo hi = true ↔ ∀ y ∈ l, lo ≤ y ∧ y ≤ hi := by simp [allIn, within]
theorem leastOf_next {xs : List Int} {k : Nat} (h0 : 0 < k) (hk : k < xs.length) : leastOf (xs.take (k + 1)) = min (leastOf (xs.take k)) xs[k] := by
  rw [List.take_succ_eq_append_getElem hk]
  exact leastOf_snoc (by intro h; have := congrArg List.length h; rw [List.length_take, List.length_nil] at this; omega) _
theorem mostOf_next {xs : List Int} {k : Nat} (h0 : 0 < k) (hk : k < xs.length) : mostOf (xs.take (k + 1)) = max (mostOf (xs.take k)) xs[k] := by
  rw [List.take_succ_eq_append_getElem hk]
  exact mostOf_snoc (by intro h; have := congrArg List.length h; rw [List.length_take, List.length_nil] at this; omega) _

theorem isParty_min {xs : List Int} {s : Int} (h1 : 0 < xs.length) (h : leastOf xs < 1) : isParty xs s = false := by
  have hne : xs ≠ [] := by intro e; subst e; simp at h1
  have h2 : allIn xs 1 1000 = false := by
    cases h3 : allIn xs 1 1000
    · rfl
    · have h4 := (le_leastOf hne 1).2 fun y hy => ((allIn_iff _ _ _).1 h3 y hy).1
      omega
  simp [isParty, h2]
theorem isParty_max {xs : List Int} {s : Int} (h1 : 0 < xs.length) (h : 1000 < mostOf xs) : isParty xs s = false := by
  have hne : xs ≠ [] := by intro e; subst e; simp at h1
  have h2 : allIn xs 1 1000 = false := by
    cases h3 : allIn xs 1 1000
    · rfl
    · have h4 := (mostOf_le hne 1000).2 fun y hy => ((allIn_iff _ _ _).1 h3 y hy).2
      omega
  simp [isParty, h2]
theorem isParty_yes {xs : List Int} {s : Int} (h1 : 0 < xs.length) (h8 : xs.length ≤ 8) (h : 1 ≤ leastOf xs) (h' : mostOf xs ≤ 1000) (hs : 1 ≤ s) (hs' : s ≤ 3) : isParty xs s = true := by
  have hne : xs ≠ [] := by intro e; subst e; simp at h1
  have h3 : allIn xs 1 1000 = true := (allIn_iff _ _ _).2 fun y hy => ⟨(le_leastOf hne 1).1 h y hy, (mostOf_le hne 1000).1 h' y hy⟩
  simp only [isParty, h3, within_yes hs hs', within_yes (show (1 : Int) ≤ xs.length by omega) (show (xs.length : Int) ≤ 8 by omega), Bool.and_self]
theorem isParty_len {xs : List Int} {s : Int} (h : xs.length < 1 ∨ 8 < xs.length) : isParty xs s = false := by
  simp only [isParty, within_no (show (xs.length : Int) < 1 ∨ (8 : Int) < xs.length by omega), Bool.false_and]
theorem isParty_seats {xs : List Int} {s : Int} (h : s < 1 ∨ 3 < s) : isParty xs s = false := by
  simp only [isParty, within_no h, Bool.and_false]

end Go.Proofs.Ytcoagbcleccmmaa
