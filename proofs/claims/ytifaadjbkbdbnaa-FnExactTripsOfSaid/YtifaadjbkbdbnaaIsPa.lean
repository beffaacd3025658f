/-
  What is proved: contracts of the least and the greatest number of a list, and of the program's own test of a party. Conditions: the party's times are read as they lie.
-/
import Derived.Test.YtifaadjbkbdbnaaParty
namespace Go.Proofs.Ytifaadjbkbdbnaa
open Go.RowKit

def leastOf : List Int → Int | [] => 0 | x :: l => l.foldl min x
def mostOf : List Int → Int | [] => 0 | x :: l => l.foldl max x
theorem leastOf_snoc {l : List Int} (h : l ≠ []) (x : Int) : leastOf (l ++ [x]) = min (leastOf l) x := by
  cases l with
  | nil => exact absurd rfl h
  | cons y l => simp [leastOf, List.foldl_append]
theorem mostOf_snoc {l : List Int} (h : l ≠ []) (x : Int) : mostOf (l ++ [x]) = max (mostOf l) x := by
  cases l with
  | nil => exact absurd rfl h
  | cons y l => simp [mostOf, List.foldl_append]
theorem le_foldl (l : List Int) (x b : Int) : b ≤ l.foldl min x ↔ b ≤ x ∧ ∀ y ∈ l, b ≤ y := by
  induction l generalizing x with
  | nil => simp
  | cons y l ih =>
    simp only [List.foldl_cons, ih, List.mem_cons, forall_eq_or_imp]
    constructor
    · rintro ⟨h, k⟩; exact ⟨by omega, by omega, k⟩
    · rintro ⟨h, k, m⟩; exact ⟨by omega, m⟩
theorem foldl_le (l : List Int) (x b : Int) : l.foldl max x ≤ b ↔ x ≤ b ∧ ∀ y ∈ l, y ≤ b := by
  induction l generalizing x with
  | nil => simp
  | cons y l ih =>
    simp only [List.foldl_cons, ih, List.mem_cons, forall_eq_or_imp]
    constructor
    · rintro ⟨h, k⟩; exact ⟨by omega, by omega, k⟩
    · rintro ⟨h, k, m⟩; exact ⟨by omega, m⟩
theorem le_leastOf {l : List Int} (h : l ≠ []) (b : Int) : b ≤ leastOf l ↔ ∀ y ∈ l, b ≤ y := by
  cases l with
  | nil => exact absurd rfl h
  | cons x l => simp [leastOf, le_foldl]
theorem mostOf_le {l : List Int} (h : l ≠ []) (b : Int) : mostOf l ≤ b ↔ ∀ y ∈ l, y ≤ b := by
  cases l with
  | nil => exact absurd rfl h
  | cons x l => simp [mostOf, foldl_le]
theorem allIn_iff (l : List Int) (lo hi : Int) : allIn l lo hi = true ↔ ∀ y ∈ l, lo ≤ y ∧ y ≤ hi := by simp [allIn, within]
theorem leastOf_next {xs : List Int} {k : Nat} (h0 : 0 < k) (hk : k < xs.length) : leastOf (xs.take (k + 1)) = min (leastOf (xs.take k)) xs[k] := by
  rw [List.take_succ_eq_append_getElem hk]
  exact leastOf_snoc (by intro h; have := congrArg List.length h; rw [List.length_take, List.length_nil] at this; omega) _
theorem mostOf_next {xs : List Int} {k : Nat} (h0 : 0 < k) (hk : k < xs.length) : mostOf (xs.take (k + 1)) = max (mostOf (xs.take k)) xs[k] := by
  rw [List.take_succ_eq_append_getElem hk]
  exact mostOf_snoc (by intro h; have := congrArg List.length h; rw [List.length_take, List.length_nil] at this; omega) _

set_option maxHeartbeats 400000 in
theorem sliceMin_any (A : Option Addr) (n c : Nat) (xs : List Int) (w : World) (hA : Holds w A (nums xs)) (hx : xs.length = n) (h0 : 0 < n) (hn : n ≤ 9223372036854775807) :
    Calls Try.prog 109 #[.slice A n c] w fun e w' => e = .returned (.int .i64 (leastOf xs)) ∧ w = w' := by
  subst hx
  obtain ⟨b, o, rfl, hb, hc⟩ := hA.look (k := 0) (by simpa [nums] using h0)
  simp only [nums, List.getElem_map, Nat.add_zero] at hc
  have h1 : (0 : Int) < xs.length := by omega
  go_enter Try.func109, Try.ntmps109
  go_wp2
  go_loop [3, 4] (fun m i => ∃ k : Nat, 0 < k ∧ k ≤ xs.length ∧ i = .int .i64 k ∧ m = .int .i64 (leastOf (xs.take k))) (fun _ i => xs.length - (intOf i).toNat)
  case atStart => exact ⟨1, by omega, by omega, rfl, by rw [List.take_succ_eq_append_getElem h0]; rfl⟩
  case round =>
    obtain ⟨k, hk0, hk, rfl, rfl⟩ := hrel
    clear hc
    by_cases hlt : k < xs.length
    · obtain ⟨b', o', hA', hb', hc⟩ := hA.look (k := k) (by simpa [nums] using hlt)
      simp only [Option.some.injEq, Addr.mk.injEq] at hA'
      obtain ⟨rfl, rfl, -⟩ := hA'
      simp only [nums, List.getElem_map] at hc
      have HS := Lib.hid (leastOf_next hk0 hlt)
      go_wp2
      go_round
      case rel => exact ⟨k + 1, by omega, by omega, by go_num, by rw [HS.out]; exact congrArg _ (by split <;> omega)⟩
      case measure => simp [intOf]; omega
    · have hkn : k = xs.length := by omega
      subst hkn
      go_wp2
      go_ret
      exact ⟨rfl, rfl⟩

set_option maxHeartbeats 400000 in
theorem sliceMax_any (A : Option Addr) (n c : Nat) (xs : List Int) (w : World) (hA : Holds w A (nums xs)) (hx : xs.length = n) (h0 : 0 < n) (hn : n ≤ 9223372036854775807) :
    Calls Try.prog 110 #[.slice A n c] w fun e w' => e = .returned (.int .i64 (mostOf xs)) ∧ w = w' := by
  subst hx
  obtain ⟨b, o, rfl, hb, hc⟩ := hA.look (k := 0) (by simpa [nums] using h0)
  simp only [nums, List.getElem_map, Nat.add_zero] at hc
  have h1 : (0 : Int) < xs.length := by omega
  go_enter Try.func110, Try.ntmps110
  go_wp2
  go_loop [3, 4] (fun m i => ∃ k : Nat, 0 < k ∧ k ≤ xs.length ∧ i = .int .i64 k ∧ m = .int .i64 (mostOf (xs.take k))) (fun _ i => xs.length - (intOf i).toNat)
  case atStart => exact ⟨1, by omega, by omega, rfl, by rw [List.take_succ_eq_append_getElem h0]; rfl⟩
  case round =>
    obtain ⟨k, hk0, hk, rfl, rfl⟩ := hrel
    clear hc
    by_cases hlt : k < xs.length
    · obtain ⟨b', o', hA', hb', hc⟩ := hA.look (k := k) (by simpa [nums] using hlt)
      simp only [Option.some.injEq, Addr.mk.injEq] at hA'
      obtain ⟨rfl, rfl, -⟩ := hA'
      simp only [nums, List.getElem_map] at hc
      have HS := Lib.hid (mostOf_next hk0 hlt)
      go_wp2
      go_round
      case rel => exact ⟨k + 1, by omega, by omega, by go_num, by rw [HS.out]; exact congrArg _ (by split <;> omega)⟩
      case measure => simp [intOf]; omega
    · have hkn : k = xs.length := by omega
      subst hkn
      go_wp2
      go_ret
      exact ⟨rfl, rfl⟩

theorem isParty_min {xs : List Int} {s : Int} (h1 : 0 < xs.length) (h : leastOf xs < 1) : isParty xs s = false := by
  have hne : xs ≠ [] := by intro e; subst e; simp at h1
  have h2 : allIn xs 1 1000 = false := by
    cases h3 : allIn xs 1 1000
    · rfl
    · have h4 := (le_leastOf hne 1).2 fun y hy => ((allIn_iff _ _ _).1 h3 y hy).1
      omega
  simp [isParty, h2]
theorem isParty_max {xs : List Int} {s : Int} (h1 : 0 < xs.length) (h : 1000 < mostOf xs) : isParty xs s = false := by
  have hne : xs ≠ [] := by intro e; subst e; simp at h1
  have h2 : allIn xs 1 1000 = false := by
    cases h3 : allIn xs 1 1000
    · rfl
    · have h4 := (mostOf_le hne 1000).2 fun y hy => ((allIn_iff _ _ _).1 h3 y hy).2
      omega
  simp [isParty, h2]
theorem isParty_yes {xs : List Int} {s : Int} (h1 : 0 < xs.length) (h8 : xs.length ≤ 8) (h : 1 ≤ leastOf xs) (h' : mostOf xs ≤ 1000) (hs : 1 ≤ s) (hs' : s ≤ 3) : isParty xs s = true := by
  have hne : xs ≠ [] := by intro e; subst e; simp at h1
  have h3 : allIn xs 1 1000 = true := (allIn_iff _ _ _).2 fun y hy => ⟨(le_leastOf hne 1).1 h y hy, (mostOf_le hne 1000).1 h' y hy⟩
  simp only [isParty, h3, within_yes hs hs', within_yes (show (1 : Int) ≤ xs.length by omega) (show (xs.length : Int) ≤ 8 by omega), Bool.and_self]
theorem isParty_len {xs : List Int} {s : Int} (h : xs.length < 1 ∨ 8 < xs.length) : isParty xs s = false := by
  simp only [isParty, within_no (show (xs.length : Int) < 1 ∨ (8 : Int) < xs.length by omega), Bool.false_and]
theorem isParty_seats {xs : List Int} {s : Int} (h : s < 1 ∨ 3 < s) : isParty xs s = false := by
  simp only [isParty, within_no h, Bool.and_false]

set_option maxHeartbeats 400000 in
theorem isParty_any (A : Option Addr) (n c : Nat) (xs : List Int) (s : Int) (w : World) (hA : Holds w A (nums xs)) (hx : xs.length = n) (hn : n ≤ 9223372036854775807) :
    Calls Try.prog 81 #[.agg #[.slice A n c, .int .i64 s]] w fun e w' => e = .returned (.bool (isParty xs s)) ∧ Below w.heap.size w w' := by
  subst hx
  have hB := hA.alloc (.cells #[.slice A xs.length c, .int .i64 s] 33)
  by_cases h1 : xs.length < 1
  · have HP := Lib.hid (isParty_len (s := s) (.inl h1))
    go_enter Try.func81, Try.ntmps81
    go_wp2
    go_ret
    exact ⟨ret_of (by rw [HP.out]; rfl), below1 w _⟩
  by_cases h8 : 8 < xs.length
  · have HP := Lib.hid (isParty_len (s := s) (.inr h8))
    go_enter Try.func81, Try.ntmps81
    go_wp2
    go_ret
    exact ⟨ret_of (by rw [HP.out]; rfl), below1 w _⟩
  by_cases hs1 : s < 1
  · have HP := Lib.hid (isParty_seats (xs := xs) (.inl hs1))
    go_enter Try.func81, Try.ntmps81
    go_wp2
    go_ret
    exact ⟨ret_of (by rw [HP.out]; rfl), below1 w _⟩
  by_cases hs3 : 3 < s
  · have HP := Lib.hid (isParty_seats (xs := xs) (.inr hs3))
    go_enter Try.func81, Try.ntmps81
    go_wp2
    go_ret
    exact ⟨ret_of (by rw [HP.out]; rfl), below1 w _⟩
  have hp : 0 < xs.length := by omega
  by_cases hl : leastOf xs < 1
  · have HP := Lib.hid (isParty_min (s := s) hp hl)
    go_enter Try.func81, Try.ntmps81
    go_wp2_with fail
    refine (sliceMin_any A _ c xs _ hB rfl hp hn).mono ?_
    rintro e w' ⟨rfl, rfl⟩
    go_wp2
    go_ret
    exact ⟨ret_of (by rw [HP.out]; rfl), below1 w _⟩
  by_cases hm : 1000 < mostOf xs
  · have HP := Lib.hid (isParty_max (s := s) hp hm)
    go_enter Try.func81, Try.ntmps81
    go_wp2_with fail
    refine (sliceMin_any A _ c xs _ hB rfl hp hn).mono ?_
    rintro e w' ⟨rfl, rfl⟩
    go_wp2_with fail
    refine (sliceMax_any A _ c xs _ hB rfl hp hn).mono ?_
    rintro e w' ⟨rfl, rfl⟩
    go_wp2
    go_ret
    exact ⟨ret_of (by rw [HP.out]; show Value.bool (decide (mostOf xs ≤ 1000)) = _; rw [decide_eq_false (by omega)]), below1 w _⟩
  · have HP := Lib.hid (isParty_yes (s := s) hp (by omega) (by omega) (by omega) (by omega) (by omega))
    go_enter Try.func81, Try.ntmps81
    go_wp2_with fail
    refine (sliceMin_any A _ c xs _ hB rfl hp hn).mono ?_
    rintro e w' ⟨rfl, rfl⟩
    go_wp2_with fail
    refine (sliceMax_any A _ c xs _ hB rfl hp hn).mono ?_
    rintro e w' ⟨rfl, rfl⟩
    go_wp2
    go_ret
    exact ⟨ret_of (by rw [HP.out]; rfl), below1 w _⟩
end Go.Proofs.Ytifaadjbkbdbnaa
