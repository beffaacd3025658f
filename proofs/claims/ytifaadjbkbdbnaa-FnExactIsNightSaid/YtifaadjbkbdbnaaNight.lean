/-
  What is proved: contracts of the model's and the program's tests of a night, and of the model's test of a camp. Conditions: the night's times are read as they lie.
-/
import Derived.Test.YtifaadjbkbdbnaaIsPa
import Derived.Test.YtifaadjbkbdbnaaCells
namespace Go.Proofs.Ytifaadjbkbdbnaa
open Go.RowKit

/-- A night, told in plain words: up to six people with times up to 1000, up to three seats, one torch or two. -/
def isNight (xs : List Int) (s t : Int) : Bool := within xs.length 1 6 && (allIn xs 1 1000 && (within s 1 3 && within t 1 2))
structure NightOk (xs : List Int) (s t : Int) : Prop where
  one : 1 ≤ xs.length
  six : xs.length ≤ 6
  times : ∀ y ∈ xs, 1 ≤ y ∧ y ≤ 1000
  seats : 1 ≤ s ∧ s ≤ 3
  torches : 1 ≤ t ∧ t ≤ 2
theorem isNight_ok {xs : List Int} {s t : Int} (h : isNight xs s t = true) : NightOk xs s t := by
  simp only [isNight, Bool.and_eq_true, within_iff, allIn_iff] at h
  obtain ⟨⟨h1, h2⟩, h3, ⟨h4, h5⟩, h6, h7⟩ := h
  exact ⟨by omega, by omega, h3, ⟨h4, h5⟩, h6, h7⟩
theorem isNight_of {xs : List Int} {s t : Int} (h : NightOk xs s t) : isNight xs s t = true := by
  have h1 := h.one
  have h2 := h.six
  simp only [isNight, Bool.and_eq_true, within_iff, allIn_iff]
  exact ⟨⟨by omega, by omega⟩, h.times, h.seats, h.torches⟩
theorem night_party {xs : List Int} {s t : Int} (h : NightOk xs s t) : isParty xs s = true := by
  have h1 := h.one
  have h2 := h.six
  simp only [isParty, Bool.and_eq_true, within_iff, allIn_iff]
  exact ⟨⟨by omega, by omega⟩, h.times, h.seats⟩
theorem isNight_party {xs : List Int} {s t : Int} (h : isParty xs s = false) : isNight xs s t = false := by
  cases hn : isNight xs s t
  · rfl
  · rw [night_party (isNight_ok hn)] at h; cases h
theorem isNight_len {xs : List Int} {s t : Int} (h : 6 < xs.length) : isNight xs s t = false := by
  cases hn : isNight xs s t
  · rfl
  · have := (isNight_ok hn).six; omega
theorem isNight_torch {xs : List Int} {s t : Int} (h : t < 1 ∨ 2 < t) : isNight xs s t = false := by
  cases hn : isNight xs s t
  · rfl
  · have := (isNight_ok hn).torches; omega
theorem party_ok {xs : List Int} {s : Int} (h : isParty xs s = true) : (1 ≤ xs.length ∧ xs.length ≤ 8) ∧ (∀ y ∈ xs, 1 ≤ y ∧ y ≤ 1000) ∧ 1 ≤ s ∧ s ≤ 3 := by
  simp only [isParty, Bool.and_eq_true, within_iff, allIn_iff] at h
  obtain ⟨⟨h1, h2⟩, h3, h4⟩ := h
  exact ⟨⟨by omega, by omega⟩, h3, h4⟩
theorem isNight_yes {xs : List Int} {s t : Int} (h : isParty xs s = true) (h6 : xs.length ≤ 6) (h1 : 1 ≤ t) (h2 : t ≤ 2) : isNight xs s t = true := by
  obtain ⟨h3, h4, h5⟩ := party_ok h
  exact isNight_of ⟨h3.1, h6, h4, h5, h1, h2⟩
/-- A camp of a night. -/
def isCamp (xs : List Int) (s t : Int) (m : Nat) (u : Int) : Bool := isNight xs s t && (decide (m = xs.length) && within u 0 t)

set_option maxHeartbeats 800000 in
theorem toGood_any (A : Option Addr) (n c : Nat) (xs : List Int) (s t : Int) (w : World) (hA : Holds w A (nums xs)) (hx : xs.length = n) (hn : n ≤ 9223372036854775807) :
    Calls Try.prog 80 #[.agg #[.slice A n c, .int .i64 s, .int .i64 t]] w fun e w' => e = .returned (.bool (isNight xs s t)) ∧ Below w.heap.size w w' := by
  subst hx
  have hB := hA.alloc (.cells #[.slice A xs.length c, .int .i64 s, .int .i64 t] 48)
  cases h1 : within xs.length 1 6
  · have HP : Hid (isNight xs s t = false) := by show _ = _; simp [isNight, h1]
    have H1 := Lib.hid h1
    clear h1
    go_enter Try.func80, Try.ntmps80
    go_wp2_with fail
    refine (l1In_any _ _ _ _).mono ?_
    rintro e w' ⟨rfl, rfl⟩
    rw [H1.out]
    go_wp2
    go_ret
    exact ⟨ret_of (by rw [HP.out]; rfl), below1 w _⟩
  · have H1 := Lib.hid h1
    cases h2 : allIn xs 1 1000
    · have HP : Hid (isNight xs s t = false) := by show _ = _; simp [isNight, h2]
      have H2 := Lib.hid h2
      clear h1 h2
      go_enter Try.func80, Try.ntmps80
      go_wp2_with fail
      refine (l1In_any _ _ _ _).mono ?_
      rintro e w' ⟨rfl, rfl⟩
      rw [H1.out]
      go_wp2_with fail
      refine (l1All_any _ _ _ xs _ _ _ hB rfl hn).mono ?_
      rintro e w' ⟨rfl, rfl⟩
      rw [H2.out]
      go_wp2
      go_ret
      exact ⟨ret_of (by rw [HP.out]; rfl), below1 w _⟩
    · have H2 := Lib.hid h2
      cases h3 : within s 1 3
      · have HP : Hid (isNight xs s t = false) := by show _ = _; simp [isNight, h3]
        have H3 := Lib.hid h3
        clear h1 h2 h3
        go_enter Try.func80, Try.ntmps80
        go_wp2_with fail
        refine (l1In_any _ _ _ _).mono ?_
        rintro e w' ⟨rfl, rfl⟩
        rw [H1.out]
        go_wp2_with fail
        refine (l1All_any _ _ _ xs _ _ _ hB rfl hn).mono ?_
        rintro e w' ⟨rfl, rfl⟩
        rw [H2.out]
        go_wp2_with fail
        refine (l1In_any _ _ _ _).mono ?_
        rintro e w' ⟨rfl, rfl⟩
        rw [H3.out]
        go_wp2
        go_ret
        exact ⟨ret_of (by rw [HP.out]; rfl), below1 w _⟩
      · have HP : Hid (isNight xs s t = within t 1 2) := by show _ = _; simp [isNight, h1, h2, h3]
        have H3 := Lib.hid h3
        clear h1 h2 h3
        go_enter Try.func80, Try.ntmps80
        go_wp2_with fail
        refine (l1In_any _ _ _ _).mono ?_
        rintro e w' ⟨rfl, rfl⟩
        rw [H1.out]
        go_wp2_with fail
        refine (l1All_any _ _ _ xs _ _ _ hB rfl hn).mono ?_
        rintro e w' ⟨rfl, rfl⟩
        rw [H2.out]
        go_wp2_with fail
        refine (l1In_any _ _ _ _).mono ?_
        rintro e w' ⟨rfl, rfl⟩
        rw [H3.out]
        go_wp2_with fail
        refine (l1In_any _ _ _ _).mono ?_
        rintro e w' ⟨rfl, rfl⟩
        go_wp2
        go_ret
        exact ⟨ret_of (by rw [HP.out]; rfl), below1 w _⟩

set_option maxHeartbeats 400000 in
theorem specIsNight_any (A : Option Addr) (n c : Nat) (xs : List Int) (s t : Int) (w : World) (hA : Holds w A (nums xs)) (hx : xs.length = n) (hn : n ≤ 9223372036854775807) :
    Calls Try.prog 29 #[.agg #[.slice A n c, .int .i64 s, .int .i64 t]] w fun e w' => e = .returned (.bool (isNight xs s t)) ∧ Below w.heap.size w w' := by
  have HX := Lib.hid hx
  clear hx
  go_enter Try.func29, Try.ntmps29
  go_wp2_with fail
  refine (toGood_any A n c xs s t _ (hA.alloc _) HX.out hn).mono ?_
  rintro e w1 ⟨rfl, hb⟩
  go_wp2
  go_ret
  exact ⟨rfl, below_then (below1 w _) hb (by simp)⟩

set_option maxHeartbeats 800000 in
theorem implIsNight_any (A : Option Addr) (n c : Nat) (xs : List Int) (s t : Int) (w : World) (hA : Holds w A (nums xs)) (hx : xs.length = n) (hn : n ≤ 9223372036854775807) :
    Calls Try.prog 31 #[.agg #[.slice A n c, .int .i64 s, .int .i64 t]] w fun e w' => e = .returned (.bool (isNight xs s t)) ∧ Below w.heap.size w w' := by
  subst hx
  have hB := hA.alloc (.cells #[.slice A xs.length c, .int .i64 s, .int .i64 t] 48)
  have h0 := Whole.fresh w 48 #[.slice A xs.length c, .int .i64 s, .int .i64 t]
  have H : ∀ b : Bool, isNight xs s t = b → isParty xs s = false ∨ isParty xs s = true ∧ (6 < xs.length ∨ xs.length ≤ 6 ∧ (t < 1 ∨ 1 ≤ t ∧ (2 < t ∨ t ≤ 2))) := by
    intro b _
    cases isParty xs s
    · exact .inl rfl
    · exact .inr ⟨rfl, by omega⟩
  rcases H _ rfl with hp | ⟨hp, h6 | ⟨h6, h1 | ⟨h1, h2 | h2⟩⟩⟩
  · have HP := Lib.hid (isNight_party (t := t) hp)
    have HPP := Lib.hid hp
    clear hp H
    go_enter Try.func31, Try.ntmps31
    go_wp2_with fail
    refine (isParty_any A _ c xs s _ (by with_reducible first | exact hB | exact hB.alloc _ | exact hB.drew) rfl hn).mono ?_
    rintro e w1 ⟨rfl, hb1⟩
    rw [HPP.out]
    have hb := below_then (below1 w _) hb1 (by simp)
    obtain ⟨c0, c1, c2⟩ := (h0.below hb1).cells3
    clear h0 hb1 hB
    go_wp2
    go_ret
    exact ⟨ret_of (by rw [HP.out]; first | rfl | (simp; done) | (simp; omega)), hb⟩
  · have HP := Lib.hid (isNight_len (s := s) (t := t) h6)
    have HPP := Lib.hid hp
    clear hp H
    go_enter Try.func31, Try.ntmps31
    go_wp2_with fail
    refine (isParty_any A _ c xs s _ (by with_reducible first | exact hB | exact hB.alloc _ | exact hB.drew) rfl hn).mono ?_
    rintro e w1 ⟨rfl, hb1⟩
    rw [HPP.out]
    have hb := below_then (below1 w _) hb1 (by simp)
    obtain ⟨c0, c1, c2⟩ := (h0.below hb1).cells3
    clear h0 hb1 hB
    go_wp2
    go_ret
    exact ⟨ret_of (by rw [HP.out]; first | rfl | (simp; done) | (simp; omega)), hb⟩
  · have HP := Lib.hid (isNight_torch (xs := xs) (s := s) (.inl h1))
    have HPP := Lib.hid hp
    clear hp H
    go_enter Try.func31, Try.ntmps31
    go_wp2_with fail
    refine (isParty_any A _ c xs s _ (by with_reducible first | exact hB | exact hB.alloc _ | exact hB.drew) rfl hn).mono ?_
    rintro e w1 ⟨rfl, hb1⟩
    rw [HPP.out]
    have hb := below_then (below1 w _) hb1 (by simp)
    obtain ⟨c0, c1, c2⟩ := (h0.below hb1).cells3
    clear h0 hb1 hB
    go_wp2
    go_ret
    exact ⟨ret_of (by rw [HP.out]; first | rfl | (simp; done) | (simp; omega)), hb⟩
  · have HP := Lib.hid (isNight_torch (xs := xs) (s := s) (.inr h2))
    have HPP := Lib.hid hp
    clear hp H
    go_enter Try.func31, Try.ntmps31
    go_wp2_with fail
    refine (isParty_any A _ c xs s _ (by with_reducible first | exact hB | exact hB.alloc _ | exact hB.drew) rfl hn).mono ?_
    rintro e w1 ⟨rfl, hb1⟩
    rw [HPP.out]
    have hb := below_then (below1 w _) hb1 (by simp)
    obtain ⟨c0, c1, c2⟩ := (h0.below hb1).cells3
    clear h0 hb1 hB
    go_wp2
    go_ret
    exact ⟨ret_of (by rw [HP.out]; first | rfl | (simp; done) | (simp; omega)), hb⟩
  · have HP := Lib.hid (isNight_yes hp h6 h1 h2)
    have HPP := Lib.hid hp
    clear hp H
    go_enter Try.func31, Try.ntmps31
    go_wp2_with fail
    refine (isParty_any A _ c xs s _ (by with_reducible first | exact hB | exact hB.alloc _ | exact hB.drew) rfl hn).mono ?_
    rintro e w1 ⟨rfl, hb1⟩
    rw [HPP.out]
    have hb := below_then (below1 w _) hb1 (by simp)
    obtain ⟨c0, c1, c2⟩ := (h0.below hb1).cells3
    clear h0 hb1 hB
    go_wp2
    go_ret
    exact ⟨ret_of (by rw [HP.out]; first | rfl | (simp; done) | (simp; omega)), hb⟩

set_option maxHeartbeats 800000 in
theorem toCamp_any8 (A : Option Addr) (n c : Nat) (xs : List Int) (s t : Int) (B : Option Addr) (m d : Nat) (u : Int) (w : World) (hA : Holds w A (nums xs)) (hx : xs.length = n) (hn : n ≤ 9223372036854775807) :
    Calls Try.prog 82 #[.agg #[.slice A n c, .int .i64 s, .int .i64 t], .agg #[.slice B m d, .int .i64 u]] w fun e w' => e = .returned (.bool (isCamp xs s t m u)) ∧ Below w.heap.size w w' := by
  subst hx
  have hB := (hA.alloc (.cells #[.slice A xs.length c, .int .i64 s, .int .i64 t] 48)).alloc (.cells #[.slice B m d, .int .i64 u] 56)
  have h0 := (Whole.fresh w 48 #[.slice A xs.length c, .int .i64 s, .int .i64 t]).alloc (.cells #[.slice B m d, .int .i64 u] 56)
  have h1 := Whole.fresh (w.alloc (.cells #[.slice A xs.length c, .int .i64 s, .int .i64 t] 48)) 56 #[.slice B m d, .int .i64 u]
  simp only [World.size_alloc] at h1
  have H : isNight xs s t = false ∨ isNight xs s t = true ∧ (m ≠ xs.length ∨ m = xs.length) := by
    cases isNight xs s t
    · exact .inl rfl
    · exact .inr ⟨rfl, by omega⟩
  rcases H with hp | ⟨hp, hm | hm⟩
  · have HP : Hid (isCamp xs s t m u = false) := by show _ = _; simp [isCamp, hp]
    have HPP := Lib.hid hp
    clear hp
    go_enter Try.func82, Try.ntmps82
    go_wp2_with fail
    refine (toGood_any A _ c xs s t _ hB rfl hn).mono ?_
    rintro e w1 ⟨rfl, hb1⟩
    rw [HPP.out]
    have hb := below_then (below2 w _ _) hb1 (by simp; omega)
    go_wp2
    go_ret
    exact ⟨ret_of (by rw [HP.out]; rfl), hb⟩
  · have hm' : ((m : Int) == (xs.length : Int)) = false := by simp; omega
    have HP : Hid (isCamp xs s t m u = false) := by show _ = _; simp [isCamp, hm]
    have HPP := Lib.hid hp
    clear hp hm
    go_enter Try.func82, Try.ntmps82
    go_wp2_with fail
    refine (toGood_any A _ c xs s t _ hB rfl hn).mono ?_
    rintro e w1 ⟨rfl, hb1⟩
    rw [HPP.out]
    have hb := below_then (below2 w _ _) hb1 (by simp; omega)
    obtain ⟨c0, c1, c2⟩ := (h0.below hb1).cells3
    obtain ⟨d0, d1, -, -⟩ := (h1.below hb1).two
    clear h0 h1 hb1 hB
    go_wp2
    go_ret
    exact ⟨ret_of (by rw [HP.out]; rfl), hb⟩
  · have hm' : ((m : Int) == (xs.length : Int)) = true := by simp; omega
    have HP : Hid (isCamp xs s t m u = within u 0 t) := by show _ = _; simp [isCamp, hp, hm]
    have HPP := Lib.hid hp
    clear hp hm
    go_enter Try.func82, Try.ntmps82
    go_wp2_with fail
    refine (toGood_any A _ c xs s t _ hB rfl hn).mono ?_
    rintro e w1 ⟨rfl, hb1⟩
    rw [HPP.out]
    have hb := below_then (below2 w _ _) hb1 (by simp; omega)
    obtain ⟨c0, c1, c2⟩ := (h0.below hb1).cells3
    obtain ⟨d0, d1, -, -⟩ := (h1.below hb1).two
    clear h0 h1 hb1 hB
    go_wp2_with fail
    refine (l1In_any _ _ _ _).mono ?_
    rintro e w' ⟨rfl, rfl⟩
    go_wp2
    go_ret
    exact ⟨ret_of (by rw [HP.out]; rfl), hb⟩

set_option maxHeartbeats 400000 in
theorem specIsCamp_any (A : Option Addr) (n c : Nat) (xs : List Int) (s t : Int) (B : Option Addr) (m d : Nat) (u : Int) (w : World) (hA : Holds w A (nums xs)) (hx : xs.length = n) (hn : n ≤ 9223372036854775807) :
    Calls Try.prog 34 #[.agg #[.slice A n c, .int .i64 s, .int .i64 t], .agg #[.slice B m d, .int .i64 u]] w fun e w' => e = .returned (.bool (isCamp xs s t m u)) ∧ Below w.heap.size w w' := by
  have HX := Lib.hid hx
  clear hx
  go_enter Try.func34, Try.ntmps34
  go_wp2_with fail
  refine (toCamp_any8 A n c xs s t B m d u _ (by first | exact (hA.alloc _).alloc _ | exact ((hA.alloc _).alloc _).drew) HX.out hn).mono ?_
  rintro e w1 ⟨rfl, hb⟩
  go_wp2
  go_ret
  exact ⟨rfl, below_then (below2 w _ _) hb (by simp; omega)⟩
end Go.Proofs.Ytifaadjbkbdbnaa
