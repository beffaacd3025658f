/-
  What is proved: plain facts on lists that are laid one behind the other, and on the list of them. Conditions: none.
-/
import Derived.Test.YtpefgleipjjneaaSubs
import Derived.Test.YtpefgleipjjneaaPr
namespace Go.Proofs.Ytpefgleipjjneaa
open Go.RowKit

/-- The world with these lists laid, each in a block of its own. -/
def lay (w : World) : List (List Int) → World
  | [] => w
  | l :: ls => lay (w.alloc (.cells (nums l).toArray 3)) ls
def rowsAt (b : Nat) : List (List Int) → List RowV
  | [] => []
  | l :: ls => ⟨some ⟨b, 0, none⟩, l.length, l.length, l⟩ :: rowsAt (b + 1) ls
theorem rowsAt_len : ∀ (ls : List (List Int)) (b : Nat), (rowsAt b ls).length = ls.length
  | [], _ => rfl
  | _ :: ls, b => by rw [rowsAt, List.length_cons, List.length_cons, rowsAt_len ls (b + 1)]
theorem rowsAt_nums : ∀ (ls : List (List Int)) (b : Nat), rowNums (rowsAt b ls) = ls
  | [], _ => rfl
  | l :: ls, b => by
    have := rowsAt_nums ls (b + 1)
    simp only [rowsAt, rowNums, List.map_cons] at this ⊢
    rw [this]
theorem lay_below : ∀ (ls : List (List Int)) (w : World), Below w.heap.size w (lay w ls)
  | [], w => Below.refl _ _
  | l :: ls, w => (below1 w _).trans ((lay_below ls _).mono (by simp))
theorem lay_size : ∀ (ls : List (List Int)) (w : World), (lay w ls).heap.size = w.heap.size + ls.length
  | [], w => rfl
  | l :: ls, w => by rw [lay, lay_size ls, World.size_alloc, List.length_cons]; omega
theorem lay_own : ∀ (ls : List (List Int)) (w : World), (∀ l ∈ ls, l.length ≤ 1048576) → OwnRows (lay w ls) w.heap.size (lay w ls).heap.size (rowsAt w.heap.size ls)
  | [], w, _ => Nat.le_refl _
  | l :: ls, w, h => by
    have ih := lay_own ls (w.alloc (.cells (nums l).toArray 3)) fun x hx => h x (List.mem_cons_of_mem _ hx)
    rw [World.size_alloc] at ih
    have hw : Whole (w.alloc (.cells (nums l).toArray 3)) w.heap.size 3 (nums l).toArray := Whole.fresh w _ _
    have hw2 : Whole (lay w (l :: ls)) w.heap.size 3 (nums l).toArray := hw.below (lay_below ls _)
    refine ⟨w.heap.size + 1, Nat.le_succ _, ?_, rfl, h l (by simp), ih⟩
    have := Fresh.of_whole (lo := w.heap.size) (hi := w.heap.size + 1) hw2 (Nat.le_refl _) (Nat.lt_succ_self _)
    exact this
/-- The list of the lists laid, as one that more can be put behind. -/
theorem lay_heads (ls : List (List Int)) (w : World) (h : ∀ l ∈ ls, l.length ≤ 1048576) (hn : ls.length ≤ maxLen) :
    Heads ((lay w ls).alloc (.cells (rowVals (rowsAt w.heap.size ls)).toArray 22)) w.heap.size (some ⟨(lay w ls).heap.size, 0, none⟩) ls.length (rowsAt w.heap.size ls) := by
  obtain ⟨ps, h1, h2⟩ := (lay_own ls w h).free
  refine ⟨?_, ps, h1.below (below1 _ _), fun p hp => ⟨(h2 p hp).1, by have := (h2 p hp).2; simp; omega⟩, fun a ha p hp => ?_⟩
  · refine ⟨by rw [rowVals_len, Nat.mul_one], .inr ⟨(lay w ls).heap.size, ls.length, (rowVals (rowsAt w.heap.size ls)).toArray, by rw [rowsAt_len], by rw [lay_size]; omega, Whole.fresh _ _ _, by rw [rowsAt_len]; exact Nat.le_refl _, hn, by rw [List.size_toArray, rowVals_len, rowsAt_len, Nat.mul_one], ?_⟩⟩
    rw [Nat.mul_one, List.take_of_length_le (by simp [rowVals_len])]
  · obtain rfl := Option.some.inj ha
    exact .inr (h2 p hp).2
theorem lay_all (ls : List (List Int)) (w : World) (o : Obj) : Below w.heap.size w ((lay w ls).alloc o) := (lay_below ls w).alloc (by rw [lay_size]; omega) o
theorem lay_news (ls : List (List Int)) (w : World) : ∀ j u, (rowVals (rowsAt w.heap.size ls))[j]? = some u → ((lay w ls).alloc (.cells (rowVals (rowsAt w.heap.size ls)).toArray 22)).cell? ((⟨(lay w ls).heap.size, 0, none⟩ : Addr).add j) = some u := by
  have h := cells_fresh (lay w ls) 22 (rowVals (rowsAt w.heap.size ls)).toArray
  simpa using h
end Go.Proofs.Ytpefgleipjjneaa
