/-
  What is proved: contracts of both sides' tests of hidden times. Conditions: the list is read as it lies.
-/
import Derived.Test.YtcoagbcleccmmaaIsPa
import Derived.Deep.Draws
namespace Go.Proofs.Ytcoagbcleccmmaa
open Go.RowKit

/-- The number at k is no less than the one ahead of it. -/
def stepAt (xs : List Int) (k : Nat) : Bool := decide (xs.getD k 0 ≤ xs.getD (k + 1) 0)
/-- Numbers that do not fall. -/
def sortI (xs : List Int) : Bool := (List.range (xs.length - 1)).all (stepAt xs)
/-- Hidden times. -/
def hidI (xs : List Int) : Bool := within xs.length 1 4 && (allIn xs 1 6 && sortI xs)
theorem sortI_no {xs : List Int} {k : Nat} (hk : k + 1 < xs.length) (h : xs[k + 1] < xs[k]) : sortI xs = false := by
  cases he : sortI xs
  · rfl
  · rw [sortI, List.all_eq_true] at he
    have := he k (List.mem_range.2 (by omega))
    simp only [stepAt, List.getD_eq_getElem?_getD, List.getElem?_eq_getElem hk, List.getElem?_eq_getElem (show k < xs.length by omega), Option.getD_some, decide_eq_true_eq] at this
    omega
theorem sortI_yes {xs : List Int} (h : ∀ k, k + 1 < xs.length → stepAt xs k = true) : sortI xs = true := by
  rw [sortI, List.all_eq_true]; exact fun k hk => h k (by have := List.mem_range.1 hk; omega)
theorem stepAt_of {xs : List Int} {k : Nat} (hk : k + 1 < xs.length) (h : ¬ xs[k + 1] < xs[k]) : stepAt xs k = true := by
  simp only [stepAt, List.getD_eq_getElem?_getD, List.getElem?_eq_getElem hk, List.getElem?_eq_getElem (show k < xs.length by omega), Option.getD_some, decide_eq_true_eq]
  omega
theorem sortI_at {xs : List Int} (h : sortI xs = true) {k : Nat} (hk : k + 1 < xs.length) : xs[k] ≤ xs[k + 1] := by
  rw [sortI, List.all_eq_true] at h
  have := h k (List.mem_range.2 (by omega))
  simpa only [stepAt, List.getD_eq_getElem?_getD, List.getElem?_eq_getElem hk, List.getElem?_eq_getElem (show k < xs.length by omega), Option.getD_some, decide_eq_true_eq] using this
theorem sortI_up {xs : List Int} (h : sortI xs = true) : ∀ (j k : Nat) (hjk : j ≤ k) (hk : k < xs.length), xs[j] ≤ xs[k]
  | j, 0, hjk, hk => by obtain rfl : j = 0 := by omega
                        exact Int.le_refl _
  | j, k + 1, hjk, hk => by
    rcases Nat.lt_or_ge k j with h1 | h1
    · obtain rfl : j = k + 1 := by omega
      exact Int.le_refl _
    · exact Int.le_trans (sortI_up h j k h1 (by omega)) (sortI_at h hk)
theorem hidI_len {xs : List Int} (h : xs.length < 1 ∨ 4 < xs.length) : hidI xs = false := by
  rw [hidI, within_no (by omega)]; rfl
theorem hidI_all {xs : List Int} (h : allIn xs 1 6 = false) : hidI xs = false := by simp [hidI, h]
theorem hidI_sort {xs : List Int} (h : sortI xs = false) : hidI xs = false := by simp [hidI, h]
theorem hidI_yes {xs : List Int} (h1 : 1 ≤ xs.length) (h4 : xs.length ≤ 4) (h : allIn xs 1 6 = true) (hs : sortI xs = true) : hidI xs = true := by
  rw [hidI, within_yes (by omega) (by omega), h, hs]; rfl
theorem allIn_first {xs : List Int} {lo hi : Int} (h0 : 0 < xs.length) (h : xs[0] < lo) : allIn xs lo hi = false := allIn_no h0 (within_no (.inl h))
theorem allIn_last {xs : List Int} {lo hi : Int} {k : Nat} (hk : k < xs.length) (h : hi < xs[k]) : allIn xs lo hi = false := allIn_no hk (within_no (.inr h))
theorem allIn_ends {xs : List Int} {lo hi : Int} {m : Nat} (hm : m + 1 = xs.length) (hs : sortI xs = true) (h : lo ≤ xs[0]) (h' : xs[m] ≤ hi) : allIn xs lo hi = true :=
  allIn_yes fun k hk => within_yes (Int.le_trans h (sortI_up hs 0 k (by omega) hk)) (Int.le_trans (sortI_up hs k m (by omega) (by omega)) h')
theorem hidI_parts {xs : List Int} (h : hidI xs = true) : 1 ≤ xs.length ∧ xs.length ≤ 4 ∧ (∀ y ∈ xs, 1 ≤ y ∧ y ≤ 6) ∧ sortI xs = true := by
  simp only [hidI, Bool.and_eq_true, within_iff] at h
  exact ⟨by omega, by omega, (allIn_iff _ _ _).1 h.2.1, h.2.2⟩

set_option maxHeartbeats 400000 in
theorem isNaNh_any (x : Int) (w : World) : Calls Try.prog 90 #[.int .i64 x] w fun e w' => e = .returned (.bool false) ∧ w = w' := by
  go_enter Try.func90, Try.ntmps90
  go_wp2
  go_ret
  exact ⟨by simp, rfl⟩
set_option maxHeartbeats 400000 in
theorem less_any (x y : Int) (w : World) : Calls Try.prog 79 #[.int .i64 x, .int .i64 y] w fun e w' => e = .returned (.bool (decide (x < y))) ∧ w = w' := by
  by_cases h : x < y
  · have HC : Hid (decide (x < y) = true) := decide_eq_true h
    go_enter Try.func79, Try.ntmps79
    go_wp2_with (go_at_call 90; refine (isNaNh_any _ _).mono ?_; rintro e w' ⟨rfl, rfl⟩)
    go_ret
    exact ⟨ret_of (by rw [HC.out]; rfl), rfl⟩
  · have HC : Hid (decide (x < y) = false) := decide_eq_false h
    go_enter Try.func79, Try.ntmps79
    go_wp2_with (go_at_call 90; refine (isNaNh_any _ _).mono ?_; rintro e w' ⟨rfl, rfl⟩)
    go_ret
    exact ⟨ret_of (by rw [HC.out]; rfl), rfl⟩
theorem less_drawn (x y : Int) (w : World) (k : Nat) : Calls Try.prog 79 #[.int .i64 x, .int .i64 y] (w.drewN k) fun e w'' => e = .returned (.bool (decide (x < y))) ∧ ∃ q, w'' = w.drewN q :=
  (less_any x y _).mono fun _ _ ⟨h, q⟩ => ⟨h, k, q.symm⟩

set_option maxHeartbeats 1600000 in
theorem isSortedI_any (A : Option Addr) (n c : Nat) (xs : List Int) (w : World) (hA : Holds w A (nums xs)) (hx : xs.length = n) (hn : n ≤ 1048576) :
    Calls Try.prog 61 #[.slice A n c] w fun e w' => e = .returned (.bool (sortI xs)) ∧ ∃ q, w' = w.drewN q := by
  subst hx
  go_enter Try.func61, Try.ntmps61
  go_wp2
  go_loopw [3] (fun i wr => ∃ (x : Int) (q : Nat), i = .int .i64 x ∧ -1 ≤ x ∧ x ≤ (xs.length : Int) - 1 ∧ wr = w.drewN q ∧ ∀ j : Nat, x ≤ (j : Int) → j + 1 < xs.length → stepAt xs j = true) (fun i _ => (intOf i).toNat)
  case atStart => exact ⟨_, 0, rfl, by omega, by omega, rfl, fun j h1 h2 => by omega⟩
  case round =>
    obtain ⟨x, q, rfl, hx0, hx1, rfl, hall⟩ := hrel
    have HALL := Lib.hid hall
    clear hall
    by_cases hpos : 0 < x
    · obtain ⟨k, rfl⟩ : ∃ k : Nat, x = (k : Int) + 1 := ⟨(x - 1).toNat, by omega⟩
      have hk1 : k + 1 < xs.length := by omega
      have hk0 : k < xs.length := by omega
      have hAq : Holds (w.drewN q) A (nums xs) := hA.below (below_draws (Below.refl _ _) q)
      obtain ⟨b, o, hAe, hb, hc1⟩ := hAq.look (k := k + 1) (by simpa [nums] using hk1)
      obtain ⟨b2, o2, hAe2, hb2, hc0⟩ := hAq.look (k := k) (by simpa [nums] using hk0)
      obtain ⟨rfl, rfl⟩ : b = b2 ∧ o = o2 := by
        rw [hAe] at hAe2
        simp only [Option.some.injEq, Addr.mk.injEq] at hAe2
        exact ⟨hAe2.1, hAe2.2.1⟩
      subst hAe
      clear hAe2 hb2
      simp only [nums, List.getElem_map] at hc1 hc0
      have hkw : IntKind.i64.wrap (k : Int) = k := IntWalk.i64_in _ (by omega)
      have hkw1 : IntKind.i64.wrap ((k : Int) + 1 - 1) = k := by rw [show (k : Int) + 1 - 1 = k by omega]; exact hkw
      obtain ⟨wr, hwr⟩ : ∃ wr, wr = w.drewN q := ⟨_, rfl⟩
      rw [← hwr] at hc1 hc0 hb ⊢
      have HWR := Lib.hid hwr
      clear hwr
      obtain ⟨a1, ha1⟩ : ∃ a1, a1 = xs[k + 1] := ⟨_, rfl⟩
      obtain ⟨a0, ha0⟩ : ∃ a0, a0 = xs[k] := ⟨_, rfl⟩
      rw [← ha1] at hc1
      rw [← ha0] at hc0
      by_cases hlt : a1 < a0
      · have HP := Lib.hid (sortI_no (xs := xs) (k := k) hk1 (by rw [← ha1, ← ha0]; exact hlt))
        clear ha1 ha0
        go_wp2
        go_quiet (refine less_drawn _ _ wr _)
        rw [HWR.out]
        go_wp2
        go_ret
        exact ⟨ret_of (by rw [HP.out]; rfl), _, World.drewN_drewN _ _ _⟩
      · have HAT := Lib.hid (stepAt_of (xs := xs) (k := k) hk1 (by rw [← ha1, ← ha0]; exact hlt))
        clear ha1 ha0
        go_wp2
        go_quiet (refine less_drawn _ _ wr _)
        rw [HWR.out]
        go_wp2
        go_roundw
        case rel => exact ⟨k, _, by go_num, by omega, by omega, rfl, fun j h1 h2 => by
          rcases Nat.lt_or_ge k j with h3 | h3
          · exact HALL.out j (by omega) h2
          · obtain rfl : j = k := by omega
            exact HAT.out⟩
        case measure => simp [intOf]
    · have HP := Lib.hid (sortI_yes (xs := xs) fun k hk => HALL.out k (by omega) hk)
      go_wp2
      go_ret
      exact ⟨ret_of (by rw [HP.out]; rfl), q, rfl⟩

set_option maxHeartbeats 400000 in
theorem canHide_any (p : Int) (w : World) :
    Calls Try.prog 57 #[.int .i64 p] w fun e w' => e = .returned (.bool (within p 1 4)) ∧ w = w' := by
  by_cases h1 : 1 ≤ p
  · by_cases h2 : p ≤ 4
    · have HW := Lib.hid (within_yes h1 h2)
      go_enter Try.func57, Try.ntmps57
      go_wp2
      go_ret
      exact ⟨ret_of (by rw [HW.out]; rfl), rfl⟩
    · have HW := Lib.hid (within_no (lo := 1) (.inr (Int.not_le.1 h2)))
      go_enter Try.func57, Try.ntmps57
      go_wp2
      go_ret
      exact ⟨ret_of (by rw [HW.out]; rfl), rfl⟩
  · have HW := Lib.hid (within_no (hi := 4) (.inl (Int.not_le.1 h1)))
    go_enter Try.func57, Try.ntmps57
    go_wp2
    go_ret
    exact ⟨ret_of (by rw [HW.out]; rfl), rfl⟩
theorem pzPeople_any (p : Int) (w : World) :
    Calls Try.prog 52 #[.int .i64 p] w fun e w' => e = .returned (.bool (within p 1 4)) ∧ w = w' := by
  go_enter Try.func52, Try.ntmps52
  go_wp2_with fail
  refine (l1In_any _ _ _ _).mono ?_
  rintro e w' ⟨rfl, rfl⟩
  go_wp2
  go_ret
  exact ⟨rfl, rfl⟩

set_option maxHeartbeats 1600000 in
theorem isHidden_any (A : Option Addr) (n c : Nat) (xs : List Int) (w : World) (hA : Holds w A (nums xs)) (hx : xs.length = n) (hn : n ≤ 1048576) :
    Calls Try.prog 25 #[.slice A n c] w fun e w' => e = .returned (.bool (hidI xs)) ∧ ∃ q, w' = w.drewN q := by
  subst hx
  by_cases hl : 1 ≤ xs.length ∧ xs.length ≤ 4
  · have HLW := Lib.hid (within_yes (n := xs.length) (lo := 1) (hi := 4) (by omega) (by omega))
    cases hso : sortI xs
    · have HP := Lib.hid (hidI_sort hso)
      have HSO := Lib.hid hso
      clear hso
      go_enter Try.func25, Try.ntmps25
      go_wp2_with (go_at_call 57; refine (canHide_any _ _).mono ?_; rintro e w' ⟨rfl, rfl⟩; rw [HLW.out])
      refine (isSortedI_any A _ c xs _ hA rfl hn).mono ?_
      rintro e w' ⟨rfl, q, rfl⟩
      rw [HSO.out]
      go_wp2
      go_ret
      exact ⟨ret_of (by rw [HP.out]; rfl), q, rfl⟩
    · obtain ⟨b, o, rfl, hb, hc0⟩ := hA.look (k := 0) (by simp [nums]; omega)
      obtain ⟨b2, o2, hAe2, hb2, hc1⟩ := hA.look (k := xs.length - 1) (by simp [nums]; omega)
      obtain ⟨rfl, rfl⟩ : b = b2 ∧ o = o2 := by
        simp only [Option.some.injEq, Addr.mk.injEq] at hAe2
        exact ⟨hAe2.1, hAe2.2.1⟩
      clear hAe2 hb2
      simp only [nums, List.getElem_map, Nat.add_zero] at hc1 hc0
      obtain ⟨m, hm⟩ : ∃ m, m + 1 = xs.length := ⟨xs.length - 1, by omega⟩
      have hm1 : xs.length - 1 = m := by omega
      have hc1' : w.cell? ⟨b, o + m, none⟩ = some (.int .i64 (xs[m]'(by omega))) := by simpa only [hm1] using hc1
      clear hc1
      obtain ⟨a0, ha0⟩ : ∃ a0, a0 = xs[0]'(by omega) := ⟨_, rfl⟩
      obtain ⟨a1, ha1⟩ : ∃ a1, a1 = xs[m]'(by omega) := ⟨_, rfl⟩
      rw [← ha0] at hc0
      rw [← ha1] at hc1'
      have HSO := Lib.hid hso
      have hlm : (xs.length : Int) - 1 = m := by omega
      have hmw : IntKind.i64.wrap ((xs.length : Int) - 1) = m := by rw [hlm]; exact IntWalk.i64_in _ (by omega)
      have h0l : (0 : Int) < xs.length := by omega
      have hml : (m : Int) < xs.length := by omega
      have HC0 := Lib.hid hc0
      have HC1 := Lib.hid hc1'
      clear hso hc0 hc1'
      by_cases h1 : 1 ≤ a0
      · by_cases h6 : a1 ≤ 6
        · have HP := Lib.hid (hidI_yes hl.1 hl.2 (allIn_ends (lo := 1) (hi := 6) hm HSO.out (by rw [← ha0]; exact h1) (by rw [← ha1]; exact h6)) HSO.out)
          clear ha0 ha1 hm hm1
          go_enter Try.func25, Try.ntmps25
          go_wp2_with (go_at_call 57; refine (canHide_any _ _).mono ?_; rintro e w' ⟨rfl, rfl⟩; rw [HLW.out])
          refine (isSortedI_any _ _ c xs _ hA rfl hn).mono ?_
          rintro e w' ⟨rfl, q, rfl⟩
          rw [HSO.out]
          have hc0 : (w.drewN q).cell? ⟨b, o, none⟩ = some (.int .i64 a0) := HC0.out
          have hc1 : (w.drewN q).cell? ⟨b, o + m, none⟩ = some (.int .i64 a1) := HC1.out
          go_wp2
          go_ret
          exact ⟨ret_of (by rw [HP.out]; first | rfl | (show Value.bool (decide (a1 ≤ 6)) = _; first | rw [decide_eq_true h6] | rw [decide_eq_false (by omega)])), q, rfl⟩
        · have HP := Lib.hid (hidI_all (allIn_last (xs := xs) (lo := 1) (hi := 6) (k := m) (by omega) (by rw [← ha1]; omega)))
          clear ha0 ha1 hm hm1
          go_enter Try.func25, Try.ntmps25
          go_wp2_with (go_at_call 57; refine (canHide_any _ _).mono ?_; rintro e w' ⟨rfl, rfl⟩; rw [HLW.out])
          refine (isSortedI_any _ _ c xs _ hA rfl hn).mono ?_
          rintro e w' ⟨rfl, q, rfl⟩
          rw [HSO.out]
          have hc0 : (w.drewN q).cell? ⟨b, o, none⟩ = some (.int .i64 a0) := HC0.out
          have hc1 : (w.drewN q).cell? ⟨b, o + m, none⟩ = some (.int .i64 a1) := HC1.out
          go_wp2
          go_ret
          exact ⟨ret_of (by rw [HP.out]; first | rfl | (show Value.bool (decide (a1 ≤ 6)) = _; first | rw [decide_eq_true h6] | rw [decide_eq_false (by omega)])), q, rfl⟩
      · have HP := Lib.hid (hidI_all (allIn_first (xs := xs) (lo := 1) (hi := 6) (by omega) (by rw [← ha0]; omega)))
        clear ha0 ha1 hm hm1
        go_enter Try.func25, Try.ntmps25
        go_wp2_with (go_at_call 57; refine (canHide_any _ _).mono ?_; rintro e w' ⟨rfl, rfl⟩; rw [HLW.out])
        refine (isSortedI_any _ _ c xs _ hA rfl hn).mono ?_
        rintro e w' ⟨rfl, q, rfl⟩
        rw [HSO.out]
        have hc0 : (w.drewN q).cell? ⟨b, o, none⟩ = some (.int .i64 a0) := HC0.out
        go_wp2
        go_ret
        exact ⟨ret_of (by rw [HP.out]; rfl), q, rfl⟩
  · have HLW := Lib.hid (within_no (n := xs.length) (lo := 1) (hi := 4) (by omega))
    have HP := Lib.hid (hidI_len (xs := xs) (by omega))
    go_enter Try.func25, Try.ntmps25
    go_wp2_with (go_at_call 57; refine (canHide_any _ _).mono ?_; rintro e w' ⟨rfl, rfl⟩; rw [HLW.out])
    go_ret
    exact ⟨ret_of (by rw [HP.out]; rfl), 0, rfl⟩

set_option maxHeartbeats 800000 in
theorem pzHidden_any (A : Option Addr) (n c : Nat) (xs : List Int) (w : World) (hA : Holds w A (nums xs)) (hx : xs.length = n) (hn : n ≤ 1048576) :
    Calls Try.prog 60 #[.slice A n c] w fun e w' => e = .returned (.bool (hidI xs)) ∧ ∃ q, w' = w.drewN q := by
  subst hx
  by_cases hl : 1 ≤ xs.length ∧ xs.length ≤ 4
  · have HLW := Lib.hid (within_yes (n := xs.length) (lo := 1) (hi := 4) (by omega) (by omega))
    cases hal : allIn xs 1 6
    · have HP := Lib.hid (hidI_all hal)
      have HAL := Lib.hid hal
      clear hal
      go_enter Try.func60, Try.ntmps60
      go_wp2_with (first | (go_at_call 52; refine (pzPeople_any _ _).mono ?_; rintro e w' ⟨rfl, rfl⟩; rw [HLW.out]) | (go_at_call 78; refine (l1All_any A _ c xs _ _ _ hA rfl (by omega)).mono ?_; rintro e w' ⟨rfl, rfl⟩; rw [HAL.out]))
      go_ret
      exact ⟨ret_of (by rw [HP.out]; rfl), 0, rfl⟩
    · have HAL := Lib.hid hal
      clear hal
      go_enter Try.func60, Try.ntmps60
      go_wp2_with (first | (go_at_call 52; refine (pzPeople_any _ _).mono ?_; rintro e w' ⟨rfl, rfl⟩; rw [HLW.out]) | (go_at_call 78; refine (l1All_any A _ c xs _ _ _ hA rfl (by omega)).mono ?_; rintro e w' ⟨rfl, rfl⟩; rw [HAL.out]))
      go_loopw [3] (fun i wr => ∃ (k q : Nat), i = .int .i64 ((k : Int) + 1) ∧ k + 1 ≤ xs.length ∧ wr = w.drewN q ∧ ∀ j : Nat, j < k → stepAt xs j = true) (fun i _ => xs.length - (intOf i).toNat)
      case atStart => exact ⟨0, 0, rfl, by omega, rfl, fun j h => absurd h (by omega)⟩
      case round =>
        obtain ⟨k, q, rfl, hk, rfl, hall⟩ := hrel
        have HALL := Lib.hid hall
        clear hall
        by_cases hlt : k + 1 < xs.length
        · have hk0 : k < xs.length := by omega
          have hAq : Holds (w.drewN q) A (nums xs) := hA.below (below_draws (Below.refl _ _) q)
          obtain ⟨b, o, hAe, hb, hc1⟩ := hAq.look (k := k + 1) (by simpa [nums] using hlt)
          obtain ⟨b2, o2, hAe2, hb2, hc0⟩ := hAq.look (k := k) (by simpa [nums] using hk0)
          obtain ⟨rfl, rfl⟩ : b = b2 ∧ o = o2 := by
            rw [hAe] at hAe2
            simp only [Option.some.injEq, Addr.mk.injEq] at hAe2
            exact ⟨hAe2.1, hAe2.2.1⟩
          subst hAe
          clear hAe2 hb2
          simp only [nums, List.getElem_map] at hc1 hc0
          have hkw : IntKind.i64.wrap (k : Int) = k := IntWalk.i64_in _ (by omega)
          have hkw1 : IntKind.i64.wrap ((k : Int) + 1 - 1) = k := by rw [show (k : Int) + 1 - 1 = k by omega]; exact hkw
          have hkp : (k : Int) + 1 < xs.length := by omega
          obtain ⟨wr, hwr⟩ : ∃ wr, wr = w.drewN q := ⟨_, rfl⟩
          rw [← hwr] at hc1 hc0 hb ⊢
          have HWR := Lib.hid hwr
          clear hwr
          obtain ⟨a1, ha1⟩ : ∃ a1, a1 = xs[k + 1] := ⟨_, rfl⟩
          obtain ⟨a0, ha0⟩ : ∃ a0, a0 = xs[k] := ⟨_, rfl⟩
          rw [← ha1] at hc1
          rw [← ha0] at hc0
          by_cases hst : a1 < a0
          · have HP := Lib.hid (hidI_sort (sortI_no (xs := xs) (k := k) hlt (by rw [← ha1, ← ha0]; exact hst)))
            clear ha1 ha0
            go_wp2_with fail
            go_region
            rw [HWR.out]
            go_wp2
            go_ret
            exact ⟨ret_of (by rw [HP.out]; rfl), _, World.drewN_drewN _ _ _⟩
          · have HAT := Lib.hid (stepAt_of (xs := xs) (k := k) hlt (by rw [← ha1, ← ha0]; exact hst))
            clear ha1 ha0
            go_wp2_with fail
            go_region
            rw [HWR.out]
            go_wp2
            go_roundw
            case rel => exact ⟨k + 1, _, by go_num, by omega, rfl, fun j h => by
              rcases Nat.lt_or_ge j k with h3 | h3
              · exact HALL.out j h3
              · obtain rfl : j = k := by omega
                exact HAT.out⟩
            case measure => simp [intOf]; omega
        · have HP := Lib.hid (hidI_yes hl.1 hl.2 HAL.out (sortI_yes (xs := xs) fun j hj => HALL.out j (by omega)))
          go_wp2
          go_ret
          exact ⟨ret_of (by rw [HP.out]; rfl), q, rfl⟩
  · have HLW := Lib.hid (within_no (n := xs.length) (lo := 1) (hi := 4) (by omega))
    have HP := Lib.hid (hidI_len (xs := xs) (by omega))
    go_enter Try.func60, Try.ntmps60
    go_wp2_with (go_at_call 52; refine (pzPeople_any _ _).mono ?_; rintro e w' ⟨rfl, rfl⟩; rw [HLW.out])
    go_ret
    exact ⟨ret_of (by rw [HP.out]; rfl), 0, rfl⟩

theorem implIsHidden_on (A : Option Addr) (n c : Nat) (xs : List Int) (w : World) (hA : Holds w A (nums xs)) (hx : xs.length = n) (hn : n ≤ 1048576) :
    Calls Try.prog 25 #[.slice A n c] w fun e w' => e = .returned (.bool (hidI xs)) ∧ Below w.heap.size w w' :=
  (isHidden_any A n c xs w hA hx hn).mono fun _ _ ⟨h, q, hq⟩ => ⟨h, hq ▸ below_draws (Below.refl _ _) q⟩
set_option maxHeartbeats 400000 in
theorem specIsHidden_on (A : Option Addr) (n c : Nat) (xs : List Int) (w : World) (hA : Holds w A (nums xs)) (hx : xs.length = n) (hn : n ≤ 1048576) :
    Calls Try.prog 23 #[.slice A n c] w fun e w' => e = .returned (.bool (hidI xs)) ∧ Below w.heap.size w w' := by
  go_enter Try.func23, Try.ntmps23
  go_wp2_with fail
  refine (pzHidden_any A n c xs _ hA hx hn).mono ?_
  rintro e w' ⟨rfl, q, rfl⟩
  go_wp2
  go_ret
  exact ⟨rfl, below_draws (Below.refl _ _) q⟩
end Go.Proofs.Ytcoagbcleccmmaa
