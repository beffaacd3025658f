/-
  What is proved: contracts of the last state, as the model and the program make it. Conditions: the party's times are read as they lie.
-/
import Derived.Test.YtifaadjbkbdbnaaFirstI
import Derived.Test.YtifaadjbkbdbnaaRow
namespace Go.Proofs.Ytifaadjbkbdbnaa
open Go.RowKit

/-- So many people, all over. -/
def trues (n : Nat) : List Bool := List.replicate n true
theorem trues_len (n : Nat) : (trues n).length = n := by simp [trues]
theorem trues_next (n : Nat) : bits (trues n) ++ [.bool true] = bits (trues (n + 1)) := by
  simp [bits, trues, List.replicate_succ']

/-- The places of the last state: none where there is no party. -/
def lastBits (xs : List Int) (n : Nat) (s : Int) : List Bool := if isParty xs s then trues n else []
theorem lastBits_le (xs : List Int) (n : Nat) (s : Int) : (lastBits xs n s).length ≤ n := by
  rw [lastBits]
  split
  · rw [trues_len]; exact Nat.le_refl _
  · simp

theorem place_over (n : Nat) (h : n < 8) : (placeCells (trues n) true).setIfInBounds n (.bool true) = placeCells (trues (n + 1)) true := by
  match n, h with
  | 0, _ => rfl
  | 1, _ => rfl
  | 2, _ => rfl
  | 3, _ => rfl
  | 4, _ => rfl
  | 5, _ => rfl
  | 6, _ => rfl
  | 7, _ => rfl
theorem size_place : (Try.prog.info? 94).map (·.size) = some 9 := by kernel_rfl
theorem place_one (bs : List Bool) (t : Bool) : (placeCells bs t).all (·.oneCell') = true := by simp [placeCells, Value.oneCell']

set_option maxHeartbeats 1600000 in
theorem everybodyOver_any (n : Nat) (w : World) (hn : n ≤ 8) :
    Calls Try.prog 99 #[.int .i64 n] w fun e w' => e = .returned (.agg (placeCells (trues n) true)) ∧ Below w.heap.size w w' := by
  have h1 := (Whole.fresh w 94 (placeCells [] false)).alloc (.cells (placeCells (trues 0) true) 94)
  have h2 := Whole.fresh (w.alloc (.cells (placeCells [] false) 94)) 94 (placeCells (trues 0) true)
  have hb0 := below2 w (.cells (placeCells [] false) 94) (.cells (placeCells (trues 0) true) 94)
  simp only [World.size_alloc] at h1 h2
  go_enter Try.func99, Try.ntmps99
  go_wp2
  go_loopw [7] (fun i wr => ∃ k : Nat, k ≤ n ∧ i = .int .i64 k ∧ Whole wr w.heap.size 94 (placeCells [] false) ∧ Whole wr (w.heap.size + 1) 94 (placeCells (trues k) true) ∧ Below w.heap.size w wr) (fun i _ => n - (intOf i).toNat)
  case atStart => exact ⟨0, Nat.zero_le _, rfl, h1, h2, hb0⟩
  case round =>
    clear h1 h2 hb0
    obtain ⟨k, hk, rfl, h1, h2, hb⟩ := hrel
    by_cases hlt : k < n
    · have hk8 : k < 8 := by omega
      have hki : (k : Int) < 8 := by omega
      have hcell := (h2.cell k).trans (place_at (trues k) true hk8)
      have hfr := h2.open_ k
      have hset := h2.set_ k (.bool true)
      rw [place_over k hk8] at hset
      go_wp2
      go_roundw
      case rel => exact ⟨k + 1, by omega, by go_num, h1.off (by omega), hset, below_set hb (by omega)⟩
      case measure => simp [intOf]; omega
    · have hkn : k = n := by omega
      subst hkn
      go_wp2_with (first | (refine wpList_load_row rfl 94 (.tmp 3) rfl (w.heap.size + 1) rfl 94 (placeCells (trues k) true) (0, 0) _ h2 Try.underlying94 rfl size_place ?_) | (refine wpList_store_whole rfl 94 (.tmp 2) (.tmp 15) rfl w.heap.size (placeCells (trues k) true) rfl rfl 94 (placeCells [] false) h1 size_place rfl (place_one _ _) ?_; intro w2 hw2 ho2))
      have hb2 := ho2.below hb (by omega)
      obtain ⟨r0, r1, r2, r3, r4, r5, r6, r7, r8⟩ := place_cells hw2
      refine bodyPost_ret (v := .agg (placeCells (trues k) true)) (by simp [results, Try.results99, go_sem, r0, r1, r2, r3, r4, r5, r6, r7, r8, placeCells]) rfl ⟨rfl, hb2⟩

end Go.Proofs.Ytifaadjbkbdbnaa
