/-
  What is proved: contracts of the model's and the program's tests of guards and captives. Conditions: as each says.
-/
import Derived.Test.YteeolclnoblkcaaParty
namespace Go.Proofs.Yteeolclnoblkcaa
open Go.RowKit

/-- So many guards and captives may be together. -/
def held (g k : Int) : Bool := decide (g = 0 ∨ k ≤ g)
theorem held_yes {g k : Int} (h : g = 0 ∨ k ≤ g) : held g k = true := by simp [held, h]
theorem held_no {g k : Int} (h : ¬ (g = 0 ∨ k ≤ g)) : held g k = false := by simp [held, h]
/-- Both sides are guarded. -/
def okBoth (G K g k : Int) : Bool := held g k && held (G - g) (K - k)

set_option maxHeartbeats 400000 in
theorem cuHeld_any (g k : Int) (w : World) :
    Calls Try.prog 85 #[.int .i64 g, .int .i64 k] w fun e w' => e = .returned (.bool (held g k)) ∧ w = w' := by
  by_cases h0 : g = 0
  · have H := Lib.hid (held_yes (k := k) (.inl h0))
    have h1 : (g == 0) = true := by simp [h0]
    clear h0
    go_enter Try.func85, Try.ntmps85
    go_wp2
    go_ret
    exact ⟨ret_of (by rw [H.out]; rfl), rfl⟩
  · have h1 : (g == 0) = false := by simpa using h0
    by_cases h2 : k ≤ g
    · have H := Lib.hid (held_yes (.inr h2))
      clear h0
      go_enter Try.func85, Try.ntmps85
      go_wp2
      go_ret
      exact ⟨ret_of (by rw [H.out]; rfl), rfl⟩
    · have H := Lib.hid (held_no (g := g) (k := k) (fun h => h.elim h0 h2))
      clear h0
      go_enter Try.func85, Try.ntmps85
      go_wp2
      go_ret
      exact ⟨ret_of (by rw [H.out]; rfl), rfl⟩

set_option maxHeartbeats 400000 in
theorem cuGuarded_any (G K g k : Int) (w : World) (h1 : 0 ≤ g) (h2 : g ≤ G) (h3 : G ≤ 8) (h4 : 0 ≤ k) (h5 : k ≤ K) (h6 : K ≤ 8) :
    Calls Try.prog 91 #[.int .i64 G, .int .i64 K, .int .i64 g, .int .i64 k] w fun e w' => e = .returned (.bool (okBoth G K g k)) ∧ w = w' := by
  cases h : held g k
  · have HP : Hid (okBoth G K g k = false) := by show _ = _; simp [okBoth, h]
    have H := Lib.hid h
    clear h
    go_enter Try.func91, Try.ntmps91
    go_wp2_with fail
    refine (cuHeld_any _ _ _).mono ?_
    rintro e w' ⟨rfl, rfl⟩
    rw [H.out]
    go_wp2
    go_ret
    exact ⟨ret_of (by rw [HP.out]; rfl), rfl⟩
  · have HP : Hid (okBoth G K g k = held (G - g) (K - k)) := by show _ = _; simp [okBoth, h]
    have H := Lib.hid h
    clear h
    go_enter Try.func91, Try.ntmps91
    go_wp2_with fail
    refine (cuHeld_any _ _ _).mono ?_
    rintro e w' ⟨rfl, rfl⟩
    rw [H.out]
    go_wp2_with fail
    refine (cuHeld_any _ _ _).mono ?_
    rintro e w' ⟨rfl, rfl⟩
    go_wp2
    go_ret
    exact ⟨ret_of (by rw [HP.out]; rfl), rfl⟩

/-- There may be so many guards and captives. -/
def sides (a b : Int) : Bool := decide ((0 ≤ a ∧ a ≤ 8) ∧ (0 ≤ b ∧ b ≤ 8) ∧ 0 < a + b)
theorem sides_iff {a b : Int} : sides a b = true ↔ (0 ≤ a ∧ a ≤ 8) ∧ (0 ≤ b ∧ b ≤ 8) ∧ 0 < a + b := by simp [sides]
theorem sides_no {a b : Int} (h : ¬ ((0 ≤ a ∧ a ≤ 8) ∧ (0 ≤ b ∧ b ≤ 8) ∧ 0 < a + b)) : sides a b = false := by simp only [sides, decide_eq_false_iff_not]; exact h

set_option maxHeartbeats 800000 in
theorem cuSides_any (a b s : Int) (w : World) :
    Calls Try.prog 84 #[.int .i64 a, .int .i64 b, .int .i64 s] w fun e w' => e = .returned (.bool (sides a b && within s 1 4)) ∧ w = w' := by
  cases h1 : within a 0 8
  · have HP : Hid ((sides a b && within s 1 4) = false) := by show _ = _; have := within_false h1; rw [sides_no (by omega)]; rfl
    have H1 := Lib.hid h1
    clear h1
    go_enter Try.func84, Try.ntmps84
    go_wp2_with fail
    refine (l1In_any _ _ _ _).mono ?_
    rintro e w' ⟨rfl, rfl⟩
    rw [H1.out]
    go_wp2
    go_ret
    exact ⟨ret_of (by rw [HP.out]; rfl), rfl⟩
  have b1 := within_iff.1 h1
  have b11 := b1.1
  have b12 := b1.2
  cases h2 : within b 0 8
  · have HP : Hid ((sides a b && within s 1 4) = false) := by show _ = _; have := within_false h2; rw [sides_no (by omega)]; rfl
    have H1 := Lib.hid h1
    have H2 := Lib.hid h2
    clear h1 h2 b1
    go_enter Try.func84, Try.ntmps84
    go_wp2_with fail
    refine (l1In_any _ _ _ _).mono ?_
    rintro e w' ⟨rfl, rfl⟩
    rw [H1.out]
    go_wp2_with fail
    refine (l1In_any _ _ _ _).mono ?_
    rintro e w' ⟨rfl, rfl⟩
    rw [H2.out]
    go_wp2
    go_ret
    exact ⟨ret_of (by rw [HP.out]; rfl), rfl⟩
  have b2 := within_iff.1 h2
  have b21 := b2.1
  have b22 := b2.2
  by_cases h3 : 0 < a + b
  · have HP : Hid ((sides a b && within s 1 4) = within s 1 4) := by show _ = _; rw [sides_iff.2 ⟨b1, b2, h3⟩]; rfl
    have H1 := Lib.hid h1
    have H2 := Lib.hid h2
    clear h1 h2 b1 b2
    go_enter Try.func84, Try.ntmps84
    go_wp2_with fail
    refine (l1In_any _ _ _ _).mono ?_
    rintro e w' ⟨rfl, rfl⟩
    rw [H1.out]
    go_wp2_with fail
    refine (l1In_any _ _ _ _).mono ?_
    rintro e w' ⟨rfl, rfl⟩
    rw [H2.out]
    go_wp2_with fail
    refine (l1In_any _ _ _ _).mono ?_
    rintro e w' ⟨rfl, rfl⟩
    go_wp2
    go_ret
    exact ⟨ret_of (by rw [HP.out]; rfl), rfl⟩
  · have HP : Hid ((sides a b && within s 1 4) = false) := by show _ = _; rw [sides_no (fun h => h3 h.2.2)]; rfl
    have H1 := Lib.hid h1
    have H2 := Lib.hid h2
    clear h1 h2 b1 b2
    go_enter Try.func84, Try.ntmps84
    go_wp2_with fail
    refine (l1In_any _ _ _ _).mono ?_
    rintro e w' ⟨rfl, rfl⟩
    rw [H1.out]
    go_wp2_with fail
    refine (l1In_any _ _ _ _).mono ?_
    rintro e w' ⟨rfl, rfl⟩
    rw [H2.out]
    go_wp2
    go_ret
    exact ⟨ret_of (by rw [HP.out]; rfl), rfl⟩

set_option maxHeartbeats 800000 in
theorem areGuards_any (a b : Int) (w : World) :
    Calls Try.prog 92 #[.int .i64 a, .int .i64 b] w fun e w' => e = .returned (.bool (sides a b)) ∧ w = w' := by
  by_cases hs : (0 ≤ a ∧ a ≤ 8) ∧ (0 ≤ b ∧ b ≤ 8) ∧ 0 < a + b
  · have HP := Lib.hid (sides_iff.2 hs)
    obtain ⟨⟨b1, b2⟩, ⟨b3, b4⟩, b5⟩ := hs
    have b6 : 1 ≤ a + b := b5
    by_cases hab : a < b
    all_goals
      go_enter Try.func92, Try.ntmps92
      go_wp2
      all_goals (go_ret; exact ⟨ret_of (by rw [HP.out]; rfl), rfl⟩)
  · have HP := Lib.hid (sides_no hs)
    have HS := Lib.hid hs
    clear hs
    by_cases hab : a < b
    · by_cases h1 : 0 ≤ a
      · by_cases h2 : b ≤ 8
        · have h3 : decide (1 ≤ a + b) = false := by have := HS.out; simp; omega
          go_enter Try.func92, Try.ntmps92
          go_wp2
          all_goals (go_ret; exact ⟨ret_of (by rw [HP.out]; rfl), rfl⟩)
        · go_enter Try.func92, Try.ntmps92
          go_wp2
          all_goals (go_ret; exact ⟨ret_of (by rw [HP.out]; rfl), rfl⟩)
      · go_enter Try.func92, Try.ntmps92
        go_wp2
        all_goals (go_ret; exact ⟨ret_of (by rw [HP.out]; rfl), rfl⟩)
    · by_cases h1 : 0 ≤ b
      · by_cases h2 : a ≤ 8
        · have h3 : decide (1 ≤ a + b) = false := by have := HS.out; simp; omega
          go_enter Try.func92, Try.ntmps92
          go_wp2
          all_goals (go_ret; exact ⟨ret_of (by rw [HP.out]; rfl), rfl⟩)
        · go_enter Try.func92, Try.ntmps92
          go_wp2
          all_goals (go_ret; exact ⟨ret_of (by rw [HP.out]; rfl), rfl⟩)
      · go_enter Try.func92, Try.ntmps92
        go_wp2
        all_goals (go_ret; exact ⟨ret_of (by rw [HP.out]; rfl), rfl⟩)

/-- As the program has it: none below 0. -/
def canG (g k : Int) : Bool := decide (0 ≤ g ∧ 0 ≤ k) && held g k
theorem canG_no {g k : Int} (h : g < 0 ∨ k < 0) : canG g k = false := by simp [canG]; omega
theorem canG_held {g k : Int} (h1 : 0 ≤ g) (h2 : 0 ≤ k) : canG g k = held g k := by simp [canG, h1, h2]

set_option maxHeartbeats 800000 in
theorem canGuard_any (g k : Int) (w : World) :
    Calls Try.prog 112 #[.int .i64 g, .int .i64 k] w fun e w' => e = .returned (.bool (canG g k)) ∧ w = w' := by
  by_cases hn : g < 0 ∨ k < 0
  · have HP := Lib.hid (canG_no hn)
    have HN := Lib.hid hn
    clear hn
    by_cases hgk : g < k
    · have : g < 0 := by have := HN.out; omega
      go_enter Try.func112, Try.ntmps112
      go_wp2
      all_goals (go_ret; exact ⟨ret_of (by rw [HP.out]; rfl), rfl⟩)
    · have : k < 0 := by have := HN.out; omega
      go_enter Try.func112, Try.ntmps112
      go_wp2
      all_goals (go_ret; exact ⟨ret_of (by rw [HP.out]; rfl), rfl⟩)
  · have n1 : 0 ≤ g := by omega
    have n2 : 0 ≤ k := by omega
    by_cases h0 : g = 0
    · have H := Lib.hid ((canG_held n1 n2).trans (held_yes (k := k) (.inl h0)))
      have h1 : (g == 0) = true := by simp [h0]
      clear h0 hn
      by_cases hgk : g < k
      all_goals
        go_enter Try.func112, Try.ntmps112
        go_wp2
        all_goals (go_ret; exact ⟨ret_of (by rw [H.out]; rfl), rfl⟩)
    · have h1 : (g == 0) = false := by simpa using h0
      by_cases h2 : g < k
      · have H := Lib.hid ((canG_held n1 n2).trans (held_no (g := g) (k := k) (fun h => h.elim h0 (by omega))))
        have hd : decide (k ≤ g) = false := by simp; omega
        clear h0 hn
        go_enter Try.func112, Try.ntmps112
        go_wp2
        all_goals (go_ret; exact ⟨ret_of (by rw [H.out]; rfl), rfl⟩)
      · have H := Lib.hid ((canG_held n1 n2).trans (held_yes (g := g) (k := k) (.inr (by omega))))
        clear h0 hn
        go_enter Try.func112, Try.ntmps112
        go_wp2
        all_goals (go_ret; exact ⟨ret_of (by rw [H.out]; rfl), rfl⟩)
end Go.Proofs.Yteeolclnoblkcaa
