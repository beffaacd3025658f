/-
  What is proved: contracts on trips: the program's crowd of a list and its slowest time, the model's test of a trip and its time; and that the two times are one. Conditions: lists are read as they lie; at most eight people.
-/
import Derived.Test.YtcoagbcleccmmaaImSt
namespace Go.Proofs.Ytcoagbcleccmmaa
open Go.RowKit

/-- Place j of a list is a person behind the one before. -/
def Step (l : List Int) (hi : Int) (j : Nat) : Prop := 0 ≤ l.getD j 0 ∧ l.getD j 0 ≤ hi ∧ (j = 0 ∨ l.getD (j - 1) 0 < l.getD j 0)
def StepsTo (l : List Int) (hi : Int) (k : Nat) : Prop := ∀ j, j < k → Step l hi j
/-- A strictly rising list of numbers from 0 to hi. -/
noncomputable def rising (l : List Int) (hi : Int) : Bool := by
  classical
  exact decide (StepsTo l hi l.length)
theorem rising_no {l : List Int} {hi : Int} {k : Nat} (hk : k < l.length) (h : ¬ Step l hi k) : rising l hi = false := by
  classical
  simp only [rising, decide_eq_false_iff_not]
  exact fun hs => h (hs k hk)
theorem rising_yes {l : List Int} {hi : Int} {k : Nat} (h : StepsTo l hi k) (hk : l.length ≤ k) : rising l hi = true := by
  classical
  simp only [rising, decide_eq_true_eq]
  exact fun j hj => h j (by omega)
theorem rising_steps {l : List Int} {hi : Int} (h : rising l hi = true) : StepsTo l hi l.length := by
  classical
  simpa only [rising, decide_eq_true_eq] using h
theorem StepsTo.start (l : List Int) (hi : Int) : StepsTo l hi 0 := fun _ h => absurd h (by omega)
theorem StepsTo.next {l : List Int} {hi : Int} {k : Nat} (h : StepsTo l hi k) (hs : Step l hi k) : StepsTo l hi (k + 1) := fun j hj =>
  (Nat.lt_succ_iff_lt_or_eq.1 hj).elim (h j) (fun e => e ▸ hs)
theorem getD_at (l : List Int) {k : Nat} (hk : k < l.length) : l.getD k 0 = l[k] := by simp [hk]

theorem l1Most_any (a b : Int) (w : World) : Calls Try.prog 110 #[.int .i64 a, .int .i64 b] w fun e w' => e = .returned (.int .i64 (max a b)) ∧ w = w' := by
  by_cases h : b < a
  · have HM := Lib.hid (show max a b = a by omega)
    go_enter Try.func110, Try.ntmps110
    go_wp2
    go_ret
    exact ⟨ret_of (by rw [HM.out]; rfl), rfl⟩
  · have HM := Lib.hid (show max a b = b by omega)
    go_enter Try.func110, Try.ntmps110
    go_wp2
    go_ret
    exact ⟨ret_of (by rw [HM.out]; rfl), rfl⟩

/-- A trip of a party, by the list alone: 1..seats people, strictly rising. -/
noncomputable def isTrip (n : Nat) (s : Int) (l : List Int) : Bool := within l.length 1 s && rising l (n - 1)

/-- The slowest time among the people of a list, as the model finds it. -/
def slowOf (xs l : List Int) : Int := (l.map fun k => xs.getD k.toNat 0).foldl max 0
theorem slowOf_next {xs l : List Int} {k : Nat} (hk : k < l.length) : slowOf xs (l.take (k + 1)) = max (slowOf xs (l.take k)) (xs.getD (l[k]).toNat 0) := by
  rw [slowOf, slowOf, List.take_succ_eq_append_getElem hk, List.map_append, List.foldl_append]
  rfl

set_option maxHeartbeats 800000 in
theorem paTime_any (A B : Option Addr) (n c m d : Nat) (xs l : List Int) (s : Int) (w : World) (hA : Holds w A (nums xs)) (hx : xs.length = n) (hB : Holds w B (nums l)) (hy : l.length = m) (hm : m ≤ 9223372036854775807) (hn : n ≤ 9223372036854775807) (hl : StepsTo l (n - 1) l.length) :
    Calls Try.prog 107 #[.agg #[.slice A n c, .int .i64 s], .slice B m d] w fun e w' => e = .returned (.int .i64 (slowOf xs l)) ∧ Below w.heap.size w w' := by
  have hA2 := hA.alloc (.cells #[.slice A n c, .int .i64 s] 110)
  have hB2 := hB.alloc (.cells #[.slice A n c, .int .i64 s] 110)
  have HX := Lib.hid hx
  clear hx
  subst hy
  go_enter Try.func107, Try.ntmps107
  go_wp2
  go_loop [5, 10] (fun v i => ∃ k : Nat, k ≤ l.length ∧ i = .int .i64 k ∧ v = .int .i64 (slowOf xs (l.take k))) (fun _ i => l.length - (intOf i).toNat)
  case atStart => exact ⟨0, Nat.zero_le _, rfl, rfl⟩
  case round =>
    obtain ⟨k, hk, rfl, rfl⟩ := hrel
    by_cases hlt : k < l.length
    · obtain ⟨b, o, rfl, hb, hc⟩ := hB2.look (k := k) (by simpa [nums] using hlt)
      simp only [nums, List.getElem_map] at hc
      have hst := hl k hlt
      have hlo := hst.1
      have hhi := hst.2.1
      rw [getD_at l hlt] at hlo hhi
      have hix : (l[k]).toNat < xs.length := by have := HX.out; omega
      obtain ⟨b', o', rfl, hb', hc'⟩ := hA2.look (k := (l[k]).toNat) (by simpa [nums] using hix)
      simp only [nums, List.getElem_map] at hc'
      have hnx := slowOf_next (xs := xs) hlt
      rw [List.getD_eq_getElem?_getD, List.getElem?_eq_getElem hix] at hnx
      have HN := Lib.hid hnx
      have hup : l[k] < n := by omega
      clear hnx hst hhi
      go_wp2_with (go_at_call 110; refine (l1Most_any _ _ _).mono ?_; rintro e w' ⟨rfl, rfl⟩)
      go_round
      case rel => exact ⟨k + 1, by omega, by go_num, by rw [HN.out]; rfl⟩
      case measure => simp [intOf]; omega
    · have hkn : k = l.length := by omega
      subst hkn
      go_wp2
      go_ret
      exact ⟨ret_of (by simp), below1 w _⟩
end Go.Proofs.Ytcoagbcleccmmaa
