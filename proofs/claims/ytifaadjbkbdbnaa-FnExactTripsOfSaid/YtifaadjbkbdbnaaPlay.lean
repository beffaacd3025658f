/-
  What is proved: plain facts on trips one after the other: who is where behind them, how many of them can be made. Conditions: none.
-/
import Derived.Test.YtifaadjbkbdbnaaCanI
namespace Go.Proofs.Ytifaadjbkbdbnaa
open Go.RowKit

/-- The places behind a trip: those on the list have changed sides. -/
def flipped (bs : List Bool) (l : List Int) : List Bool := (List.range bs.length).map fun i => bs.getD i false != has l i
theorem flipped_len (bs : List Bool) (l : List Int) : (flipped bs l).length = bs.length := by simp [flipped]
theorem flipped_at (bs : List Bool) (l : List Int) {i : Nat} (h : i < bs.length) : (flipped bs l)[i]? = some (bs.getD i false != has l i) := by simp [flipped, h]
theorem flipped_get (bs : List Bool) (l : List Int) {i : Nat} (h : i < bs.length) : (flipped bs l).getD i false = (bs.getD i false != has l i) := by
  rw [List.getD_eq_getElem?_getD, flipped_at bs l h]; rfl
theorem flipped_out (bs : List Bool) (l : List Int) {i : Nat} (h : bs.length ≤ i) : (flipped bs l).getD i false = false := by
  rw [List.getD_eq_getElem?_getD, List.getElem?_eq_none (by rw [flipped_len]; exact h)]; rfl
theorem flipped_nil (bs : List Bool) : flipped bs [] = bs := by
  apply List.ext_getElem?
  intro i
  by_cases h : i < bs.length
  · rw [flipped_at bs [] h]; simp [has, h]
  · rw [List.getElem?_eq_none (by rw [flipped_len]; omega), List.getElem?_eq_none (by omega)]
theorem flipped_next (bs : List Bool) {l : List Int} {j : Nat} (hj : j < l.length) (h0 : 0 ≤ l[j]) : (flipped bs (l.take j)).set (l[j]).toNat (!(bs.getD (l[j]).toNat false)) = flipped bs (l.take (j + 1)) := by
  apply List.ext_getElem?
  intro i
  rw [List.getElem?_set, flipped_len]
  by_cases hi : i < bs.length
  · rw [flipped_at bs _ hi, flipped_at bs _ hi, List.take_succ_eq_append_getElem hj, has_snoc]
    by_cases he : (l[j]).toNat = i
    · have hx : (l[j] == (i : Int)) = true := by simp; omega
      rw [if_pos he, if_pos (by omega), he, hx]
      cases has (l.take j) i <;> cases bs.getD i false <;> rfl
    · have hx : (l[j] == (i : Int)) = false := by simp; omega
      rw [if_neg he, hx, Bool.or_false]
  · rw [List.getElem?_eq_none (l := flipped bs (l.take (j + 1))) (by rw [flipped_len]; omega)]
    by_cases he : (l[j]).toNat = i
    · rw [if_pos he, if_neg (by omega)]
    · rw [if_neg he, List.getElem?_eq_none (by rw [flipped_len]; omega)]
theorem has_out {l : List Int} {n i : Nat} (hs : StepsTo l (n - 1) l.length) (h : n ≤ i) : has l i = false := by
  cases hh : has l i
  · rfl
  · have := (mem_steps hs (has_iff.1 hh)).2
    omega

/-- Places and torch behind all trips. -/
def after : List Bool → Bool → List (List Int) → List Bool × Bool
  | bs, t, [] => (bs, t)
  | bs, t, l :: ls => after (flipped bs l) (!t) ls
theorem after_snoc (l : List Int) : ∀ (ls : List (List Int)) (bs : List Bool) (t : Bool), after bs t (ls ++ [l]) = (flipped (after bs t ls).1 l, !(after bs t ls).2)
  | [], _, _ => rfl
  | _ :: ls, _, _ => after_snoc l ls _ _
theorem after_len : ∀ (ls : List (List Int)) (bs : List Bool) (t : Bool), (after bs t ls).1.length = bs.length
  | [], _, _ => rfl
  | l :: ls, bs, _ => (after_len ls _ _).trans (flipped_len bs l)
/-- How many trips can be made. -/
noncomputable def made (n : Nat) (s : Int) : List Bool → Bool → List (List Int) → Nat
  | _, _, [] => 0
  | bs, t, l :: ls => if canGo n s bs t l then made n s (flipped bs l) (!t) ls + 1 else 0
theorem made_le (n : Nat) (s : Int) : ∀ (ls : List (List Int)) (bs : List Bool) (t : Bool), made n s bs t ls ≤ ls.length
  | [], _, _ => Nat.le_refl _
  | l :: ls, bs, t => by
    rw [made]
    split
    · have := made_le n s ls (flipped bs l) (!t); simp; omega
    · simp
/-- The first k trips can be made; the rest is still to be looked at. -/
def MadeTo (n : Nat) (s : Int) (bs : List Bool) (t : Bool) (ls : List (List Int)) (k : Nat) : Prop :=
  made n s bs t ls = k + made n s (after bs t (ls.take k)).1 (after bs t (ls.take k)).2 (ls.drop k)
theorem MadeTo.start (n : Nat) (s : Int) (bs : List Bool) (t : Bool) (ls : List (List Int)) : MadeTo n s bs t ls 0 := by simp [MadeTo, after]
theorem MadeTo.next {n : Nat} {s : Int} {bs : List Bool} {t : Bool} {ls : List (List Int)} {k : Nat} (h : MadeTo n s bs t ls k) (hk : k < ls.length) (hc : canGo n s (after bs t (ls.take k)).1 (after bs t (ls.take k)).2 ls[k] = true) : MadeTo n s bs t ls (k + 1) := by
  unfold MadeTo at h ⊢
  rw [h, List.drop_eq_getElem_cons hk, made, if_pos hc, List.take_succ_eq_append_getElem hk, after_snoc]
  dsimp only
  omega
theorem MadeTo.stop {n : Nat} {s : Int} {bs : List Bool} {t : Bool} {ls : List (List Int)} {k : Nat} (h : MadeTo n s bs t ls k) (hk : k < ls.length) (hc : canGo n s (after bs t (ls.take k)).1 (after bs t (ls.take k)).2 ls[k] = false) : made n s bs t ls = k := by
  unfold MadeTo at h
  rw [h, List.drop_eq_getElem_cons hk, made, if_neg (by simp [hc])]
  omega
theorem MadeTo.done {n : Nat} {s : Int} {bs : List Bool} {t : Bool} {ls : List (List Int)} {k : Nat} (h : MadeTo n s bs t ls k) (hk : ls.length ≤ k) : made n s bs t ls = k := by
  unfold MadeTo at h
  rw [h, List.drop_eq_nil_of_le hk, made]
  omega
/-- Places and torch behind the trips that can be made. -/
noncomputable def ended (n : Nat) (s : Int) (bs : List Bool) (t : Bool) (ls : List (List Int)) : List Bool × Bool := after bs t (ls.take (made n s bs t ls))
theorem ended_len (n : Nat) (s : Int) (bs : List Bool) (t : Bool) (ls : List (List Int)) : (ended n s bs t ls).1.length = bs.length := after_len _ _ _
theorem can_steps {n : Nat} {s : Int} {bs : List Bool} {t : Bool} {l : List Int} (h : canGo n s bs t l = true) : StepsTo l (n - 1) l.length := by
  simp only [canGo, Bool.and_eq_true] at h
  exact trip_steps h.1
theorem trip_short {n : Nat} {s : Int} {l : List Int} (h : isTrip n s l = true) : (l.length : Int) ≤ s := by
  simp only [isTrip, Bool.and_eq_true] at h
  exact (within_iff.1 h.1).2
end Go.Proofs.Ytifaadjbkbdbnaa
