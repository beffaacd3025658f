/-
  What is proved: contracts of SortParty, of the model and of the program. Conditions: the party's times are read as they lie.
-/
import Derived.Test.YtionmcgaicijkaaSorted
import Derived.Test.YtionmcgaicijkaaSlow
import Derived.Test.YtionmcgaicijkaaPaPlay
import Derived.Test.YtionmcgaicijkaaMid
import Derived.Test.YtionmcgaicijkaaShelfS
import Derived.Deep.RegionHeld3
import Derived.Deep.DeepCutAuto
namespace Go.Proofs.Ytionmcgaicijkaa
open Go.RowKit

theorem spot_low {l : List Int} {x : Int} (hs : l.Pairwise (· ≤ ·)) : ∀ {k i : Nat}, k ≤ l.length → i < spot l x k → ∀ (h : i < l.length), l[i] ≤ x
  | 0, i, _, hi, _ => by simp [spot] at hi
  | k + 1, i, hk, hi, h => by
    by_cases hx : x < l.getD k 0
    · rw [spot_down hx] at hi
      exact spot_low hs (by omega) hi h
    · rw [spot_here hx] at hi
      have hkl : k < l.length := by omega
      have hkx : l[k] ≤ x := by
        have : l.getD k 0 = l[k] := by simp [hkl]
        omega
      rcases Nat.lt_or_ge i k with h1 | h1
      · exact Int.le_trans (List.pairwise_iff_getElem.1 hs i k h hkl h1) hkx
      · obtain rfl : i = k := by omega
        exact hkx
theorem spot_high {l : List Int} {x : Int} : ∀ {k i : Nat}, spot l x k ≤ i → i < k → ∀ (h : i < l.length), x < l[i]
  | 0, i, _, hi, _ => by omega
  | k + 1, i, hs, hi, h => by
    by_cases hx : x < l.getD k 0
    · rw [spot_down hx] at hs
      rcases Nat.lt_or_ge i k with h1 | h1
      · exact spot_high hs h1 h
      · obtain rfl : i = k := by omega
        have : l.getD i 0 = l[i] := by simp [h]
        omega
    · rw [spot_here hx] at hs
      omega
theorem ins_perm (l : List Int) (x : Int) : (ins l x).Perm (x :: l) := by
  have h := List.perm_middle (a := x) (l₁ := l.take (spot l x l.length)) (l₂ := l.drop (spot l x l.length))
  rw [List.take_append_drop] at h
  simpa [ins] using h
theorem ins_sorted {l : List Int} (x : Int) (hs : l.Pairwise (· ≤ ·)) : (ins l x).Pairwise (· ≤ ·) := by
  rw [ins, List.append_assoc, List.pairwise_append]
  refine ⟨hs.sublist (List.take_sublist _ _), ?_, fun a ha b hb => ?_⟩
  · rw [List.singleton_append, List.pairwise_cons]
    refine ⟨fun b hb => ?_, hs.sublist (List.drop_sublist _ _)⟩
    obtain ⟨i, hi, rfl⟩ := List.getElem_of_mem hb
    rw [List.getElem_drop]
    exact Int.le_of_lt (spot_high (k := l.length) (by omega) (by simp at hi; omega) (by simp at hi; omega))
  · obtain ⟨i, hi, rfl⟩ := List.getElem_of_mem ha
    rw [List.getElem_take]
    have hip : i < spot l x l.length := by simp at hi; omega
    have hil : i < l.length := by simp at hi; omega
    have hlx := spot_low hs (Nat.le_refl _) hip hil
    rw [List.singleton_append, List.mem_cons] at hb
    rcases hb with rfl | hb
    · exact hlx
    · obtain ⟨j, hj, rfl⟩ := List.getElem_of_mem hb
      rw [List.getElem_drop]
      exact Int.le_of_lt (Int.lt_of_le_of_lt hlx (spot_high (k := l.length) (by omega) (by simp at hj; omega) (by simp at hj; omega)))
theorem insTo_sorted (xs : List Int) : ∀ {j : Nat}, j ≤ xs.length → (insTo xs j).Pairwise (· ≤ ·) ∧ (insTo xs j).Perm (xs.take j)
  | 0, _ => ⟨List.Pairwise.nil, List.Perm.refl _⟩
  | j + 1, h => by
    obtain ⟨h1, h2⟩ := insTo_sorted xs (j := j) (by omega)
    rw [insTo_next h]
    refine ⟨ins_sorted _ h1, (ins_perm _ _).trans ?_⟩
    rw [List.take_succ_eq_append_getElem h]
    exact (h2.cons _).trans (List.perm_append_singleton _ _).symm
theorem insTo_merge (xs : List Int) : insTo xs xs.length = xs.mergeSort fun x y => decide (x ≤ y) := by
  obtain ⟨h1, h2⟩ := insTo_sorted xs (Nat.le_refl _)
  rw [List.take_length] at h2
  have h3 := List.pairwise_mergeSort (le := fun x y : Int => decide (x ≤ y)) (fun a b c h h' => by simp at h h' ⊢; omega) (fun a b => by simp; omega) xs
  have h4 : (xs.mergeSort fun x y => decide (x ≤ y)).Pairwise (· ≤ ·) := h3.imp (fun h => by simpa using h)
  exact List.Perm.eq_of_pairwise (fun a b _ _ h h' => Int.le_antisymm h h') h1 h4 (h2.trans (List.mergeSort_perm xs _).symm)

/-- slices.Sort at a list of the call's own. -/
theorem sliceSort_any (A : Option Addr) (n c lo hi : Nat) (xs : List Int) (w : World) (hf : Fresh w lo hi 3 A (nums xs)) (hx : xs.length = n) (h0 : 0 < n) (hn : n ≤ 1048576) :
    Calls Try.prog 85 #[.slice A n c] w fun e w' => e = .returned (.tuple #[]) ∧ Span lo hi w w' ∧ Fresh w' lo hi 3 A (nums (insTo xs n)) := by
  subst hx
  rcases hf with h | ⟨g, cs, rfl, hlo, hhi, hw, hle, htk⟩
  · have := congrArg List.length h
    rw [nums_len, List.length_nil] at this
    omega
  · have hcell : ∀ j (h : j < xs.length), cs[j]? = some (.int .i64 xs[j]) := fun j h => by
      have h1 := congrArg (fun l : List Value => l[j]?) htk
      simp only [List.getElem?_take] at h1
      rw [if_pos (by rw [nums_len]; exact h)] at h1
      rw [← Array.getElem?_toList, h1]
      simp [nums, h]
    refine (Try.slices_Sort_int g 0 c xs w (fun j hj => ?_) hw.lt (by omega)).mono ?_
    · have hj' : j < xs.length := by simpa using hj
      refine ⟨?_, hw.open_ _⟩
      rw [Nat.zero_add, hw.cell j, hcell j hj']
      simp [hj']
    · rintro e w' ⟨rfl, m, os, rfl⟩
      have hgl := hw.lt
      have hold : ∀ k, k < w.heap.size → k ≠ g → (Go.Sort.grow (Go.Sort.putRow (Value.int .i64) (Go.Sort.ahead w m) g 0 (xs.mergeSort fun x y => decide (x ≤ y)).toArray) os).heap[k]? = w.heap[k]? := fun k hk hne => by
        have hne' : ¬ g = k := fun h => hne h.symm
        rw [Go.Sort.heap_grow_old _ _ (by simpa [Go.Sort.ahead] using hk)]
        simp only [Go.Sort.putRow, Go.Sort.mapBlock, Go.Sort.ahead, Array.getElem?_modify, if_neg hne']
      refine ⟨rfl, ⟨rfl, rfl, rfl, ?_, fun k hk hd => hold k hk (by omega)⟩, ?_⟩
      · simp [Go.Sort.grow, Go.Sort.putRow, Go.Sort.mapBlock, Go.Sort.ahead]
      · have hlen : (xs.mergeSort fun x y => decide (x ≤ y)).length = xs.length := List.length_mergeSort xs
        refine .inr ⟨g, Go.Sort.putCells (Value.int .i64) 0 (xs.mergeSort fun x y => decide (x ≤ y)).toArray cs, rfl, hlo, hhi, ?_, ?_, ?_⟩
        · unfold Whole at hw ⊢
          rw [Go.Sort.heap_grow_old _ _ (by simpa [Go.Sort.ahead] using hgl)]
          simp only [Go.Sort.putRow, Go.Sort.mapBlock, Go.Sort.ahead, Array.getElem?_modify, hw]
          rfl
        · rw [nums_len, insTo_len xs (Nat.le_refl _)]
          simp [Go.Sort.putCells]
          rw [nums_len] at hle
          exact hle
        · rw [nums_len, insTo_len xs (Nat.le_refl _), insTo_merge]
          rw [nums_len] at hle
          apply List.ext_getElem?
          intro j
          rw [List.getElem?_take]
          by_cases hj : j < xs.length
          · have hjc : j < cs.size := by omega
            rw [if_pos hj, Array.getElem?_toList]
            simp [Go.Sort.putCells, nums, hjc, hj, hlen]
          · rw [if_neg hj, List.getElem?_eq_none (by rw [nums_len, hlen]; omega)]
end Go.Proofs.Ytionmcgaicijkaa
