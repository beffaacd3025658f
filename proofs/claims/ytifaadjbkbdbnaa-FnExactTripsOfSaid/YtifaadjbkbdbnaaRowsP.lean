/-
  What is proved: plain facts on lists of lists that a call hands back. Conditions: none.
-/
import Derived.Test.YtifaadjbkbdbnaaHeads
namespace Go.Proofs.Ytifaadjbkbdbnaa
open Go.RowKit

/-- What a call hands back that makes a list of lists and tells whether it did. -/
def BackPost (ls : List (List Int)) (ok : Bool) (w : World) (e : Ending) (w' : World) : Prop :=
  ∃ (A : Option Addr) (n c : Nat) (rs : List RowV), e = .returned (.tuple #[.slice A n c, .bool ok]) ∧ rowNums rs = ls ∧ rs.length = n ∧ FreeGrid w' w.heap.size w'.heap.size A rs ∧ Below w.heap.size w w'
theorem BackPost.no {w w' : World} (h : Below w.heap.size w w') : BackPost [] false w (.returned (.tuple #[.slice none 0 0, .bool false])) w' :=
  ⟨none, 0, 0, [], rfl, rfl, rfl, (Heads.nil w' w.heap.size).free, h⟩
theorem part_lens {w : World} {A : Option Addr} {rs : List RowV} (h : Grid w A rs) : part rs rs.length = ((rowNums rs).map List.length).sum := by
  rw [part_sum]
  have : ∀ ts : List RowV, (∀ r ∈ ts, r.xs.length = r.n) → ts.map RowV.n = (rowNums ts).map List.length := by
    intro ts ht
    simp only [rowNums, List.map_map]
    exact List.map_congr_left fun r hr => (ht r hr).symm
  rw [this rs fun r hr => (h.2 r hr).2.1]
theorem sum_lens {ls : List (List Int)} {k : Nat} (h : ∀ l ∈ ls, l.length ≤ k) : (ls.map List.length).sum ≤ k * ls.length := by
  induction ls with
  | nil => simp
  | cons l ls ih =>
    have h1 := h l (by simp)
    have h2 := ih fun x hx => h x (List.mem_cons_of_mem _ hx)
    rw [List.map_cons, List.sum_cons, List.length_cons, Nat.mul_succ]
    omega
end Go.Proofs.Ytifaadjbkbdbnaa
