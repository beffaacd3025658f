/-
  What is proved: plain facts on the signs of rounds and on lists of trips, and the contract of the model's prPair. Conditions: none.
-/
import Derived.Test.YtpefgleipjjneaaLay
import Derived.Test.YtpefgleipjjneaaPrOrd
import Derived.Laws.Concat
namespace Go.Proofs.Ytpefgleipjjneaa
open Go.RowKit

/-- The sign of a round: f for a fetch, e for an escort. -/
def signR (f : Bool) (W : List Wk) (k : Nat) : UInt8 := if f && decide (0 < gainOf W k) then 102 else 101
def signsT (f : Bool) (W : List Wk) : Nat → List UInt8
  | 0 => []
  | 1 => []
  | 2 => []
  | 3 => []
  | k + 4 => signR f W (k + 2) :: signsT f W (k + 2)
def evenT (W : List Wk) : Nat → Bool
  | 0 => false
  | 1 => false
  | 2 => false
  | 3 => false
  | k + 4 => decide (gainOf W (k + 2) = 0) || evenT W (k + 2)
theorem signsT_step (f : Bool) (W : List Wk) {k y : Nat} (h4 : 4 ≤ k) (hy : y + 2 = k) : signsT f W k = signR f W y :: signsT f W y := by
  obtain ⟨m, rfl⟩ : ∃ m, k = m + 4 := ⟨k - 4, by omega⟩
  obtain rfl : y = m + 2 := by omega
  rw [signsT]
theorem evenT_step (W : List Wk) {k y : Nat} (h4 : 4 ≤ k) (hy : y + 2 = k) : evenT W k = (decide (gainOf W y = 0) || evenT W y) := by
  obtain ⟨m, rfl⟩ : ∃ m, k = m + 4 := ⟨k - 4, by omega⟩
  obtain rfl : y = m + 2 := by omega
  rw [evenT]
theorem tripsM_step (f : Bool) (W : List Wk) {k y : Nat} (h4 : 4 ≤ k) (hy : y + 2 = k) : (tripsT f W k).map listT = (round f W y).map listT ++ (tripsT f W y).map listT := by
  obtain ⟨m, rfl⟩ : ∃ m, k = m + 4 := ⟨k - 4, by omega⟩
  obtain rfl : y = m + 2 := by omega
  rw [tripsT, List.map_append]
theorem signsT_len (f : Bool) (W : List Wk) : ∀ k, (signsT f W k).length ≤ k
  | 0 => Nat.le_refl _
  | 1 => by simp [signsT]
  | 2 => by simp [signsT]
  | 3 => by simp [signsT]
  | k + 4 => by
    have := signsT_len f W (k + 2)
    rw [signsT, List.length_cons]
    omega
theorem list_alone (x : Wk) : listT (x, x) = [x.1] := by simp [listT, isAlone]
theorem list_pair {x y : Wk} (h : x.1 ≠ y.1) : listT (x, y) = [min x.1 y.1, max x.1 y.1] := by
  have hne : ¬ x = y := fun e => h (by rw [e])
  simp [listT, isAlone, hne]
theorem fetch_lists {xs : List Int} {W : List Wk} (h : GoodW xs W) {y : Nat} (h2 : 2 ≤ y) (hy : y + 1 < W.length) (hg : 0 < gainOf W y) :
    (round true W y).map listT = [[min (wk W 0).1 (wk W 1).1, max (wk W 0).1 (wk W 1).1], [(wk W 0).1], [min (wk W y).1 (wk W (y + 1)).1, max (wk W y).1 (wk W (y + 1)).1], [(wk W 1).1]] := by
  rw [round, if_pos (by simp [hg])]
  simp only [List.map_cons, List.map_nil, list_alone, list_pair (h.two 0 1 (by omega) (by omega)).2, list_pair (h.two y (y + 1) (by omega) hy).2]
theorem escort_lists {xs : List Int} {W : List Wk} (h : GoodW xs W) {f : Bool} {y : Nat} (h2 : 2 ≤ y) (hy : y + 1 < W.length) (hg : (f && decide (0 < gainOf W y)) = false) :
    (round f W y).map listT = [[min (wk W 0).1 (wk W (y + 1)).1, max (wk W 0).1 (wk W (y + 1)).1], [(wk W 0).1], [min (wk W 0).1 (wk W y).1, max (wk W 0).1 (wk W y).1], [(wk W 0).1]] := by
  rw [round, if_neg (by simp [hg])]
  simp only [List.map_cons, List.map_nil, list_alone, list_pair (h.two 0 (y + 1) (by omega) hy).2, list_pair (h.two 0 y (by omega) (by omega)).2]

set_option maxHeartbeats 800000 in
theorem prPair_any (x y : Int) (w : World) : Calls Try.prog 28 #[.int .i64 x, .int .i64 y] w fun e w' => e = .returned (.slice (some ⟨w.heap.size, 0, none⟩) 2 2) ∧ w' = w.alloc (.cells #[.int .i64 (min x y), .int .i64 (max x y)] 3) := by
  by_cases h : y < x
  · have HM : Hid (min x y = y ∧ max x y = x) := by show _ ∧ _; omega
    go_enter Try.func28, Try.ntmps28
    go_wp2
    go_ret
    exact ⟨rfl, by rw [HM.out.1, HM.out.2]⟩
  · have HM : Hid (min x y = x ∧ max x y = y) := by show _ ∧ _; omega
    go_enter Try.func28, Try.ntmps28
    go_wp2
    go_ret
    exact ⟨rfl, by rw [HM.out.1, HM.out.2]⟩

theorem cat_sign (l : List UInt8) (c : UInt8) (h : l.length ≤ 1048576) (W : World) : (Op.stringOp .add ⟨l.toArray⟩ ⟨#[c]⟩).run Try.prog W = .ok (.string ⟨(l ++ [c]).toArray⟩) W :=
  run_string_add_lists W l [c] (by omega) (by simp)
theorem lay_heads' (ls : List (List Int)) (w : World) (h : ∀ l ∈ ls, l.length ≤ 1048576) (hn : ls.length ≤ maxLen) :
    Heads ((lay w ls).alloc (.cells (rowVals (rowsAt w.heap.size ls)).toArray 22)) w.heap.size (some ⟨w.heap.size + ls.length, 0, none⟩) ls.length (rowsAt w.heap.size ls) := by
  have := lay_heads ls w h hn
  rwa [lay_size] at this
theorem lay_news' (ls : List (List Int)) (w : World) : ∀ j u, (rowVals (rowsAt w.heap.size ls))[j]? = some u → ((lay w ls).alloc (.cells (rowVals (rowsAt w.heap.size ls)).toArray 22)).cell? ((⟨w.heap.size + ls.length, 0, none⟩ : Addr).add j) = some u := by
  have := lay_news ls w
  rwa [lay_size] at this
theorem rowsAt_vals (b : Nat) (ls : List (List Int)) : (rowVals (rowsAt b ls)).length = ls.length * 1 := by rw [rowVals_len, rowsAt_len, Nat.mul_one]
theorem rowVals_one' (rs : List RowV) : ∀ u ∈ rowVals rs, u.oneCell' = true := by
  intro v hv
  simp only [rowVals, List.mem_map] at hv
  obtain ⟨x, -, rfl⟩ := hv
  rfl
theorem laid_size (ls : List (List Int)) (w : World) (o : Obj) : ((lay w ls).alloc o).heap.size = w.heap.size + ls.length + 1 := by rw [World.size_alloc, lay_size]
end Go.Proofs.Ytpefgleipjjneaa
