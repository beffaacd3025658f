/-
  What is proved: contracts on trips: the program's crowd of a list and its slowest time, the model's test of a trip and its time; and that the two times are one. Conditions: lists are read as they lie; at most eight people.
-/
import Derived.Test.YtifaadjbkbdbnaaImSt
namespace Go.Proofs.Ytifaadjbkbdbnaa
open Go.RowKit

/-- Place j of a list is a person behind the one before. -/
def Step (l : List Int) (hi : Int) (j : Nat) : Prop := 0 ≤ l.getD j 0 ∧ l.getD j 0 ≤ hi ∧ (j = 0 ∨ l.getD (j - 1) 0 < l.getD j 0)
def StepsTo (l : List Int) (hi : Int) (k : Nat) : Prop := ∀ j, j < k → Step l hi j
/-- A strictly rising list of numbers from 0 to hi. -/
noncomputable def rising (l : List Int) (hi : Int) : Bool := by
  classical
  exact decide (StepsTo l hi l.length)
theorem rising_no {l : List Int} {hi : Int} {k : Nat} (hk : k < l.length) (h : ¬ Step l hi k) : rising l hi = false := by
  classical
  simp only [rising, decide_eq_false_iff_not]
  exact fun hs => h (hs k hk)
theorem rising_yes {l : List Int} {hi : Int} {k : Nat} (h : StepsTo l hi k) (hk : l.length ≤ k) : rising l hi = true := by
  classical
  simp only [rising, decide_eq_true_eq]
  exact fun j hj => h j (by omega)
theorem rising_steps {l : List Int} {hi : Int} (h : rising l hi = true) : StepsTo l hi l.length := by
  classical
  simpa only [rising, decide_eq_true_eq] using h
theorem StepsTo.start (l : List Int) (hi : Int) : StepsTo l hi 0 := fun _ h => absurd h (by omega)
theorem StepsTo.next {l : List Int} {hi : Int} {k : Nat} (h : StepsTo l hi k) (hs : Step l hi k) : StepsTo l hi (k + 1) := fun j hj =>
  (Nat.lt_succ_iff_lt_or_eq.1 hj).elim (h j) (fun e => e ▸ hs)
theorem getD_at (l : List Int) {k : Nat} (hk : k < l.length) : l.getD k 0 = l[k] := by simp [hk]

set_option maxHeartbeats 800000 in
theorem l1Rising_any (A : Option Addr) (n c : Nat) (l : List Int) (hi : Int) (w : World) (hA : Holds w A (nums l)) (hx : l.length = n) (hn : n ≤ 9223372036854775807) :
    Calls Try.prog 123 #[.slice A n c, .int .i64 0, .int .i64 hi] w fun e w' => e = .returned (.bool (rising l hi)) ∧ w = w' := by
  subst hx
  go_enter Try.func123, Try.ntmps123
  go_wp2
  go_loop [11] (fun i => ∃ k : Nat, k ≤ l.length ∧ i = .int .i64 k ∧ StepsTo l hi k) (fun i => l.length - (intOf i).toNat)
  case atStart => exact ⟨0, Nat.zero_le _, rfl, StepsTo.start _ _⟩
  case round =>
    obtain ⟨k, hk, rfl, hs⟩ := hrel
    by_cases hlt : k < l.length
    · obtain ⟨b, o, rfl, hb, hc⟩ := hA.look (k := k) (by simpa [nums] using hlt)
      simp only [nums, List.getElem_map] at hc
      have hg := getD_at l hlt
      cases hw : within l[k] 0 hi
      · have HN := Lib.hid (rising_no (hi := hi) hlt (fun h => by
          have h1 := h.1; have h2 := h.2.1
          rw [hg] at h1 h2
          rw [within_yes h1 h2] at hw
          cases hw))
        have HW := Lib.hid hw
        clear hw hg
        go_wp2_with (go_at_call 107; refine (l1In_any _ _ _ _).mono ?_; rintro e w' ⟨rfl, rfl⟩; rw [HW.out])
        go_ret
        exact ⟨ret_of (by rw [HN.out]; rfl), rfl⟩
      · have hin := within_iff.1 hw
        have HW := Lib.hid hw
        clear hw
        by_cases h0 : k = 0
        · subst h0
          simp only [Nat.add_zero] at hc
          have hst := Lib.hid (hs.next (k := 0) ⟨by rw [hg]; exact hin.1, by rw [hg]; exact hin.2, .inl rfl⟩)
          clear hg hin
          go_wp2_with (go_at_call 107; refine (l1In_any _ _ _ _).mono ?_; rintro e w' ⟨rfl, rfl⟩; rw [HW.out])
          go_round
          case rel => exact ⟨1, by omega, by go_num, hst.out⟩
          case measure => simp [intOf]; omega
        · have hk1 : k - 1 < l.length := by omega
          obtain ⟨b', o', hA', hb', hc'⟩ := hA.look (k := k - 1) (by simpa [nums] using hk1)
          simp only [Option.some.injEq, Addr.mk.injEq] at hA'
          obtain ⟨rfl, rfl, -⟩ := hA'
          simp only [nums, List.getElem_map] at hc'
          have hg' := getD_at l hk1
          have hkp : (0 : Int) < k := by omega
          have htn : ((k : Int) - 1).toNat = k - 1 := by omega
          by_cases hle : l[k] ≤ l[k - 1]
          · have HN := Lib.hid (rising_no (hi := hi) hlt (fun h => by
              have h1 := h.2.2
              rw [hg, hg'] at h1
              omega))
            clear hg hg' hin
            go_wp2_with (go_at_call 107; refine (l1In_any _ _ _ _).mono ?_; rintro e w' ⟨rfl, rfl⟩; rw [HW.out])
            go_ret
            exact ⟨ret_of (by rw [HN.out]; rfl), rfl⟩
          · have hst := Lib.hid (hs.next (k := k) ⟨by rw [hg]; exact hin.1, by rw [hg]; exact hin.2, .inr (by rw [hg, hg']; omega)⟩)
            clear hg hg' hin
            go_wp2_with (go_at_call 107; refine (l1In_any _ _ _ _).mono ?_; rintro e w' ⟨rfl, rfl⟩; rw [HW.out])
            go_round
            case rel => exact ⟨k + 1, by omega, by go_num, hst.out⟩
            case measure => simp [intOf]; omega
    · have HN := Lib.hid (rising_yes hs (by omega))
      go_wp2
      go_ret
      exact ⟨ret_of (by rw [HN.out]; rfl), rfl⟩

theorem l1Most_any (a b : Int) (w : World) : Calls Try.prog 125 #[.int .i64 a, .int .i64 b] w fun e w' => e = .returned (.int .i64 (max a b)) ∧ w = w' := by
  by_cases h : b < a
  · have HM := Lib.hid (show max a b = a by omega)
    go_enter Try.func125, Try.ntmps125
    go_wp2
    go_ret
    exact ⟨ret_of (by rw [HM.out]; rfl), rfl⟩
  · have HM := Lib.hid (show max a b = b by omega)
    go_enter Try.func125, Try.ntmps125
    go_wp2
    go_ret
    exact ⟨ret_of (by rw [HM.out]; rfl), rfl⟩

/-- A trip of a party, by the list alone: 1..seats people, strictly rising. -/
noncomputable def isTrip (n : Nat) (s : Int) (l : List Int) : Bool := within l.length 1 s && rising l (n - 1)

/-- The slowest time among the people of a list, as the model finds it. -/
def slowOf (xs l : List Int) : Int := (l.map fun k => xs.getD k.toNat 0).foldl max 0
theorem slowOf_next {xs l : List Int} {k : Nat} (hk : k < l.length) : slowOf xs (l.take (k + 1)) = max (slowOf xs (l.take k)) (xs.getD (l[k]).toNat 0) := by
  rw [slowOf, slowOf, List.take_succ_eq_append_getElem hk, List.map_append, List.foldl_append]
  rfl

end Go.Proofs.Ytifaadjbkbdbnaa
