/-
  What is proved: contracts of the laws' own helpers for banks: their size, their copy, their comparison, their marks. Conditions: the given lists are read as they lie; a copy is of at most 1,048,576 values.
-/
import Derived.Test.YtkdjdnknhbmliaaMark
namespace Go.Proofs.Ytkdjdnknhbmliaa
open Go.RowKit

set_option maxHeartbeats 400000 in
theorem szBank_any (A : Option Addr) (n c : Nat) (s : Bool) (l : Int) (w : World) (hn : n ≤ 9223372036854775807) (h0 : 0 ≤ l) (h1 : l ≤ 1048576) :
    Calls Try.prog 39 #[.agg #[.slice A n c, .bool s], .int .i64 l] w fun e w' => e = .returned (.int .i64 (if l < n then -1 else l - n)) ∧ Below w.heap.size w w' := by
  by_cases h : l < n
  all_goals
    go_enter Try.func39, Try.ntmps39
    go_wp2_with fail
    refine (szBoolS_any A n c l _ hn h0 h1).mono ?_
    rintro e w' ⟨rfl, rfl⟩
    first | rw [if_pos (by assumption)] | rw [if_neg (by omega)]
    go_wp2
    go_ret
    exact ⟨rfl, (Below.refl _ _).alloc (Nat.le_refl _) _⟩

set_option maxHeartbeats 400000 in
theorem toBank_any (A : Option Addr) (n c : Nat) (xs : List Bool) (s : Bool) (w : World) (hA : Holds w A (bits xs)) (hx : xs.length = n) (hn : n ≤ 1048576) :
    Calls Try.prog 41 #[.agg #[.slice A n c, .bool s]] w fun e w' => e = .returned (.agg #[.slice (some ⟨w.heap.size + 1 + 1 + 1, 0, none⟩) n n, .bool s]) ∧ Whole w' (w.heap.size + 1 + 1 + 1) 4 (bits xs).toArray ∧ Below w.heap.size w w' := by
  have HX := Lib.hid hx
  clear hx
  go_enter Try.func41, Try.ntmps41
  go_wp2_with fail
  refine (toBoolS_any A n c xs _ (((hA.alloc _).alloc _).alloc _) HX.out hn).mono ?_
  rintro e w1 ⟨rfl, hw, hb, hs⟩
  obtain ⟨hc, hf⟩ := kept hb
  have HS := Lib.hid hs
  have hz : w.heap.size + 3 < w1.heap.size := by have := HS.out; simp at this; omega
  clear hs
  have hw' : Whole w1 (w.heap.size + 1 + 1 + 1) 4 (bits xs).toArray := by simpa using hw
  have hb' : Below w.heap.size w w1 := below_then (below3 w _ _ _) hb (by simp; omega)
  clear hw
  go_wp2
  refine bodyPost_ret (v := .agg #[.slice (some ⟨w.heap.size + 1 + 1 + 1, 0, none⟩) n n, .bool s]) (by simp [results, Try.results41, go_sem, hc]) rfl ⟨rfl, ?_, ?_⟩
  · exact (((hw'.off (by omega)).off (by omega)).off (by omega)).off (by omega)
  · exact below_set (below_set (below_set (below_set hb' (by omega)) (by omega)) (by omega)) (by omega)

/-- The same, the new row's block told by a letter. -/
theorem toBank_own (A : Option Addr) (n c : Nat) (xs : List Bool) (s : Bool) (w : World) (hA : Holds w A (bits xs)) (hx : xs.length = n) (hn : n ≤ 1048576) :
    Calls Try.prog 41 #[.agg #[.slice A n c, .bool s]] w fun e w' => ∃ g, e = .returned (.agg #[.slice (some ⟨g, 0, none⟩) n n, .bool s]) ∧ w.heap.size ≤ g ∧ Whole w' g 4 (bits xs).toArray ∧ Below w.heap.size w w' :=
  (toBank_any A n c xs s w hA hx hn).mono fun _ _ ⟨he, hw, hb⟩ => ⟨_, he, by omega, hw, hb⟩

set_option maxHeartbeats 400000 in
theorem eqBank_any (A B : Option Addr) (n m c d : Nat) (xs ys : List Bool) (s t : Bool) (w : World) (hA : Holds w A (bits xs)) (hB : Holds w B (bits ys)) (hx : xs.length = n) (hy : ys.length = m)
    (hn : n ≤ 9223372036854775807) (hm : m ≤ 9223372036854775807) :
    Calls Try.prog 43 #[.agg #[.slice A n c, .bool s], .agg #[.slice B m d, .bool t]] w fun e w' => e = .returned (.bool (sameBits xs ys && s == t)) ∧ Below w.heap.size w w' := by
  have HX := Lib.hid hx
  have HY := Lib.hid hy
  clear hx hy
  rcases (inferInstance : Decidable (s = t)) with hst | hst
  all_goals
    have hst1 : (!(s == t)) = !decide (s = t) := by simp [hst]
    simp only [hst, decide_false, decide_true, Bool.not_false, Bool.not_true] at hst1
    cases he : sameBits xs ys
  all_goals
    have HE := Lib.hid he
    clear he
    go_enter Try.func43, Try.ntmps43
    go_wp2_with fail
    refine (eqBoolS_any A B n m c d xs ys _ ((hA.alloc _).alloc _) ((hB.alloc _).alloc _) HX.out HY.out hn hm).mono ?_
    rintro e w1 ⟨rfl, k, rfl⟩
    rw [HE.out]
    go_wp2
    go_ret
    exact ⟨ret_of (by simp_all), below_draws (below2 w _ _) k⟩

/-- Two parties of one reading are the same. -/
theorem eqBank_yes (A B : Option Addr) (n c d : Nat) (xs : List Bool) (s : Bool) (w : World) (hA : Holds w A (bits xs)) (hB : Holds w B (bits xs)) (hx : xs.length = n) (hn : n ≤ 9223372036854775807) :
    Calls Try.prog 43 #[.agg #[.slice A n c, .bool s], .agg #[.slice B n d, .bool s]] w fun e w' => e = .returned (.bool true) ∧ Below w.heap.size w w' :=
  (eqBank_any A B n n c d xs xs s s w hA hB hx hx hn hn).mono fun _ _ ⟨he, hb⟩ => ⟨by rw [he, sameBits_yes rfl]; simp, hb⟩

set_option maxHeartbeats 400000 in
theorem markBank_any (A : Option Addr) (n c lo hi : Nat) (xs : List Value) (t : Bool) (q : Int) (w : World) (hf : Fresh w lo hi 4 A xs) (hx : xs.length = n) (h0 : 0 ≤ q) (h1 : q ≤ 4611686018427387904) (hn : n ≤ 1048576) :
    Calls Try.prog 47 #[.agg #[.slice A n c, .bool t], .int .i64 q] w fun e w' => e = .returned (.int .i64 (q + n)) ∧ Span lo hi w w' ∧ Fresh w' lo hi 4 A (bits (marksB q n)) := by
  have HX := Lib.hid hx
  clear hx
  go_enter Try.func47, Try.ntmps47
  go_wp2_with fail
  refine (markBoolS_any A n c lo hi xs q _ (hf.alloc _) HX.out h0 h1 hn).mono ?_
  rintro e w1 ⟨rfl, hs, hf1⟩
  go_wp2
  go_ret
  exact ⟨rfl, (Span.of_below (below1 w _) lo hi).trans hs, hf1⟩

set_option maxHeartbeats 400000 in
theorem heldBank_any (A : Option Addr) (n c : Nat) (t : Bool) (q : Int) (w : World) (hA : Holds w A (bits (marksB q n))) (h0 : 0 ≤ q) (h1 : q ≤ 4611686018427387904) (hn : n ≤ 1048576) :
    Calls Try.prog 50 #[.agg #[.slice A n c, .bool t], .int .i64 q] w fun e w' => e = .returned (.int .i64 (q + n)) ∧ Below w.heap.size w w' := by
  have hq0 : (0 : Int) ≤ q + n := by omega
  go_enter Try.func50, Try.ntmps50
  go_wp2_with fail
  refine (heldBoolS_any A n c q _ (hA.alloc _) h0 h1 hn).mono ?_
  rintro e w1 ⟨rfl, rfl⟩
  go_wp2
  go_ret
  exact ⟨rfl, below1 w _⟩
end Go.Proofs.Ytkdjdnknhbmliaa
