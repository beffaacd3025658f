/-
  What is proved: contracts of the model's and the program's tests of a night, and of the model's test of a camp. Conditions: the night's times are read as they lie.
  What is proved: contracts of NightText, of the model and of the program. Conditions: the times are read as they lie; the table of powers of ten lies as told (the program).
  What is proved: contracts of the laws' own helpers for nights and camps: their size, their copy, their comparison, their marks. Conditions: the given lists are read as they lie; a copy is of at most 1,048,576 values.
  What is proved: the law FnExactNightText returns true at every argument, and leaves all that was there as it was. Conditions: the arguments are read as they lie.
-/
import Derived.Deep.RegionHeld3
import Derived.Test.YtedkanncdkofaaaDoorJ2PartyText
set_option linter.unusedSimpArgs false
set_option linter.unusedVariables false
namespace Go.Proofs.YtedkanncdkofaaaDoor
open Go.RowKit

/-- A night, told in plain words: up to six people with times up to 1000, up to three seats, one torch or two. -/
def isNight (xs : List Int) (s t : Int) : Bool := within xs.length 1 6 && (allIn xs 1 1000 && (within s 1 3 && within t 1 2))
structure NightOk (xs : List Int) (s t : Int) : Prop where
  one : 1 ≤ xs.length
  six : xs.length ≤ 6
  times : ∀ y ∈ xs, 1 ≤ y ∧ y ≤ 1000
  seats : 1 ≤ s ∧ s ≤ 3
  torches : 1 ≤ t ∧ t ≤ 2
theorem isNight_ok {xs : List Int} {s t : Int} (h : isNight xs s t = true) : NightOk xs s t := by
  simp only [isNight, Bool.and_eq_true, within_iff, allIn_iff] at h
  obtain ⟨⟨h1, h2⟩, h3, ⟨h4, h5⟩, h6, h7⟩ := h
  exact ⟨by omega, by omega, h3, ⟨h4, h5⟩, h6, h7⟩
theorem isNight_of {xs : List Int} {s t : Int} (h : NightOk xs s t) : isNight xs s t = true := by
  have h1 := h.one
  have h2 := h.six
  simp only [isNight, Bool.and_eq_true, within_iff, allIn_iff]
  exact ⟨⟨by omega, by omega⟩, h.times, h.seats, h.torches⟩
theorem night_party {xs : List Int} {s t : Int} (h : NightOk xs s t) : isParty xs s = true := by
  have h1 := h.one
  have h2 := h.six
  simp only [isParty, Bool.and_eq_true, within_iff, allIn_iff]
  exact ⟨⟨by omega, by omega⟩, h.times, h.seats⟩
theorem isNight_party {xs : List Int} {s t : Int} (h : isParty xs s = false) : isNight xs s t = false := by
  cases hn : isNight xs s t
  · rfl
  · rw [night_party (isNight_ok hn)] at h; cases h
theorem isNight_len {xs : List Int} {s t : Int} (h : 6 < xs.length) : isNight xs s t = false := by
  cases hn : isNight xs s t
  · rfl
  · have := (isNight_ok hn).six; omega
theorem isNight_torch {xs : List Int} {s t : Int} (h : t < 1 ∨ 2 < t) : isNight xs s t = false := by
  cases hn : isNight xs s t
  · rfl
  · have := (isNight_ok hn).torches; omega
theorem party_ok {xs : List Int} {s : Int} (h : isParty xs s = true) : (1 ≤ xs.length ∧ xs.length ≤ 8) ∧ (∀ y ∈ xs, 1 ≤ y ∧ y ≤ 1000) ∧ 1 ≤ s ∧ s ≤ 3 := by
  simp only [isParty, Bool.and_eq_true, within_iff, allIn_iff] at h
  obtain ⟨⟨h1, h2⟩, h3, h4⟩ := h
  exact ⟨⟨by omega, by omega⟩, h3, h4⟩
theorem isNight_yes {xs : List Int} {s t : Int} (h : isParty xs s = true) (h6 : xs.length ≤ 6) (h1 : 1 ≤ t) (h2 : t ≤ 2) : isNight xs s t = true := by
  obtain ⟨h3, h4, h5⟩ := party_ok h
  exact isNight_of ⟨h3.1, h6, h4, h5, h1, h2⟩
/-- A camp of a night. -/
def isCamp (xs : List Int) (s t : Int) (m : Nat) (u : Int) : Bool := isNight xs s t && (decide (m = xs.length) && within u 0 t)

set_option maxHeartbeats 800000 in
theorem toGood_any (A : Option Addr) (n c : Nat) (xs : List Int) (s t : Int) (w : World) (hA : Holds w A (nums xs)) (hx : xs.length = n) (hn : n ≤ 9223372036854775807) :
    Calls Tryd.prog 94 #[.agg #[.slice A n c, .int .i64 s, .int .i64 t]] w fun e w' => e = .returned (.bool (isNight xs s t)) ∧ Below w.heap.size w w' := by
  subst hx
  have hB := hA.alloc (.cells #[.slice A xs.length c, .int .i64 s, .int .i64 t] 64)
  cases h1 : within xs.length 1 6
  · have HP : Hid (isNight xs s t = false) := by show _ = _; simp [isNight, h1]
    have H1 := Lib.hid h1
    clear h1
    go_enter Tryd.func94, Tryd.ntmps94
    go_wp2_with fail
    refine (l1In_any _ _ _ _).mono ?_
    rintro e w' ⟨rfl, rfl⟩
    rw [H1.out]
    go_wp2
    go_ret
    exact ⟨ret_of (by rw [HP.out]; rfl), below1 w _⟩
  · have H1 := Lib.hid h1
    cases h2 : allIn xs 1 1000
    · have HP : Hid (isNight xs s t = false) := by show _ = _; simp [isNight, h2]
      have H2 := Lib.hid h2
      clear h1 h2
      go_enter Tryd.func94, Tryd.ntmps94
      go_wp2_with fail
      refine (l1In_any _ _ _ _).mono ?_
      rintro e w' ⟨rfl, rfl⟩
      rw [H1.out]
      go_wp2_with fail
      refine (l1All_any _ _ _ xs _ _ _ hB rfl hn).mono ?_
      rintro e w' ⟨rfl, rfl⟩
      rw [H2.out]
      go_wp2
      go_ret
      exact ⟨ret_of (by rw [HP.out]; rfl), below1 w _⟩
    · have H2 := Lib.hid h2
      cases h3 : within s 1 3
      · have HP : Hid (isNight xs s t = false) := by show _ = _; simp [isNight, h3]
        have H3 := Lib.hid h3
        clear h1 h2 h3
        go_enter Tryd.func94, Tryd.ntmps94
        go_wp2_with fail
        refine (l1In_any _ _ _ _).mono ?_
        rintro e w' ⟨rfl, rfl⟩
        rw [H1.out]
        go_wp2_with fail
        refine (l1All_any _ _ _ xs _ _ _ hB rfl hn).mono ?_
        rintro e w' ⟨rfl, rfl⟩
        rw [H2.out]
        go_wp2_with fail
        refine (l1In_any _ _ _ _).mono ?_
        rintro e w' ⟨rfl, rfl⟩
        rw [H3.out]
        go_wp2
        go_ret
        exact ⟨ret_of (by rw [HP.out]; rfl), below1 w _⟩
      · have HP : Hid (isNight xs s t = within t 1 2) := by show _ = _; simp [isNight, h1, h2, h3]
        have H3 := Lib.hid h3
        clear h1 h2 h3
        go_enter Tryd.func94, Tryd.ntmps94
        go_wp2_with fail
        refine (l1In_any _ _ _ _).mono ?_
        rintro e w' ⟨rfl, rfl⟩
        rw [H1.out]
        go_wp2_with fail
        refine (l1All_any _ _ _ xs _ _ _ hB rfl hn).mono ?_
        rintro e w' ⟨rfl, rfl⟩
        rw [H2.out]
        go_wp2_with fail
        refine (l1In_any _ _ _ _).mono ?_
        rintro e w' ⟨rfl, rfl⟩
        rw [H3.out]
        go_wp2_with fail
        refine (l1In_any _ _ _ _).mono ?_
        rintro e w' ⟨rfl, rfl⟩
        go_wp2
        go_ret
        exact ⟨ret_of (by rw [HP.out]; rfl), below1 w _⟩

set_option maxHeartbeats 800000 in
theorem implIsNight_any (A : Option Addr) (n c : Nat) (xs : List Int) (s t : Int) (w : World) (hA : Holds w A (nums xs)) (hx : xs.length = n) (hn : n ≤ 9223372036854775807) :
    Calls Tryd.prog 96 #[.agg #[.slice A n c, .int .i64 s, .int .i64 t]] w fun e w' => e = .returned (.bool (isNight xs s t)) ∧ Below w.heap.size w w' := by
  subst hx
  have hB := hA.alloc (.cells #[.slice A xs.length c, .int .i64 s, .int .i64 t] 64)
  have h0 := Whole.fresh w 64 #[.slice A xs.length c, .int .i64 s, .int .i64 t]
  have H : ∀ b : Bool, isNight xs s t = b → isParty xs s = false ∨ isParty xs s = true ∧ (6 < xs.length ∨ xs.length ≤ 6 ∧ (t < 1 ∨ 1 ≤ t ∧ (2 < t ∨ t ≤ 2))) := by
    intro b _
    cases isParty xs s
    · exact .inl rfl
    · exact .inr ⟨rfl, by omega⟩
  rcases H _ rfl with hp | ⟨hp, h6 | ⟨h6, h1 | ⟨h1, h2 | h2⟩⟩⟩
  · have HP := Lib.hid (isNight_party (t := t) hp)
    have HPP := Lib.hid hp
    clear hp H
    go_enter Tryd.func96, Tryd.ntmps96
    go_wp2_with fail
    refine (isParty_any A _ c xs s _ (by with_reducible first | exact hB | exact hB.alloc _ | exact hB.drew) rfl hn).mono ?_
    rintro e w1 ⟨rfl, hb1⟩
    rw [HPP.out]
    have hb := below_then (below1 w _) hb1 (by simp)
    obtain ⟨c0, c1, c2⟩ := (h0.below hb1).cells3
    clear h0 hb1 hB
    go_wp2
    go_ret
    exact ⟨ret_of (by rw [HP.out]; first | rfl | (simp; done) | (simp; omega)), hb⟩
  · have HP := Lib.hid (isNight_len (s := s) (t := t) h6)
    have HPP := Lib.hid hp
    clear hp H
    go_enter Tryd.func96, Tryd.ntmps96
    go_wp2_with fail
    refine (isParty_any A _ c xs s _ (by with_reducible first | exact hB | exact hB.alloc _ | exact hB.drew) rfl hn).mono ?_
    rintro e w1 ⟨rfl, hb1⟩
    rw [HPP.out]
    have hb := below_then (below1 w _) hb1 (by simp)
    obtain ⟨c0, c1, c2⟩ := (h0.below hb1).cells3
    clear h0 hb1 hB
    go_wp2
    go_ret
    exact ⟨ret_of (by rw [HP.out]; first | rfl | (simp; done) | (simp; omega)), hb⟩
  · have HP := Lib.hid (isNight_torch (xs := xs) (s := s) (.inl h1))
    have HPP := Lib.hid hp
    clear hp H
    go_enter Tryd.func96, Tryd.ntmps96
    go_wp2_with fail
    refine (isParty_any A _ c xs s _ (by with_reducible first | exact hB | exact hB.alloc _ | exact hB.drew) rfl hn).mono ?_
    rintro e w1 ⟨rfl, hb1⟩
    rw [HPP.out]
    have hb := below_then (below1 w _) hb1 (by simp)
    obtain ⟨c0, c1, c2⟩ := (h0.below hb1).cells3
    clear h0 hb1 hB
    go_wp2
    go_ret
    exact ⟨ret_of (by rw [HP.out]; first | rfl | (simp; done) | (simp; omega)), hb⟩
  · have HP := Lib.hid (isNight_torch (xs := xs) (s := s) (.inr h2))
    have HPP := Lib.hid hp
    clear hp H
    go_enter Tryd.func96, Tryd.ntmps96
    go_wp2_with fail
    refine (isParty_any A _ c xs s _ (by with_reducible first | exact hB | exact hB.alloc _ | exact hB.drew) rfl hn).mono ?_
    rintro e w1 ⟨rfl, hb1⟩
    rw [HPP.out]
    have hb := below_then (below1 w _) hb1 (by simp)
    obtain ⟨c0, c1, c2⟩ := (h0.below hb1).cells3
    clear h0 hb1 hB
    go_wp2
    go_ret
    exact ⟨ret_of (by rw [HP.out]; first | rfl | (simp; done) | (simp; omega)), hb⟩
  · have HP := Lib.hid (isNight_yes hp h6 h1 h2)
    have HPP := Lib.hid hp
    clear hp H
    go_enter Tryd.func96, Tryd.ntmps96
    go_wp2_with fail
    refine (isParty_any A _ c xs s _ (by with_reducible first | exact hB | exact hB.alloc _ | exact hB.drew) rfl hn).mono ?_
    rintro e w1 ⟨rfl, hb1⟩
    rw [HPP.out]
    have hb := below_then (below1 w _) hb1 (by simp)
    obtain ⟨c0, c1, c2⟩ := (h0.below hb1).cells3
    clear h0 hb1 hB
    go_wp2
    go_ret
    exact ⟨ret_of (by rw [HP.out]; first | rfl | (simp; done) | (simp; omega)), hb⟩

end Go.Proofs.YtedkanncdkofaaaDoor

namespace Go.Proofs.YtedkanncdkofaaaDoor
open Go.RowKit

/-- What NightText tells. -/
def nightTextOf (xs : List Int) (s t : Int) : List UInt8 := if isNight xs s t then nightText xs s t else []
theorem isNight_times {xs : List Int} {s t : Int} (h : isNight xs s t = true) : xs.length ≤ 8 ∧ (0 ≤ s ∧ s < 1000000) ∧ (∀ x ∈ xs, 0 ≤ x ∧ x < 1000000) ∧ (0 ≤ t ∧ t < 1000000) ∧ isParty xs s = true := by
  simp only [isNight, within, allIn, Bool.and_eq_true, decide_eq_true_eq, List.all_eq_true] at h
  obtain ⟨h1, h2, h3, h4⟩ := h
  refine ⟨by omega, by omega, fun x hx => by have := h2 x hx; omega, by omega, ?_⟩
  simp only [isParty, within, allIn, Bool.and_eq_true, decide_eq_true_eq, List.all_eq_true]
  exact ⟨by omega, h2, h3⟩
theorem partyText_le {xs : List Int} {s : Int} (hx : xs.length ≤ 8) (hs : s < 1000000) (ht : ∀ x ∈ xs, x < 1000000) : (partyText xs s).length ≤ 100 := by
  rw [← shownUp_end xs s _ rfl]
  have := shownUp_le xs s xs.length hs ht
  omega

set_option maxHeartbeats 1600000 in
set_option maxRecDepth 100000 in
theorem toText_any (A : Option Addr) (n c : Nat) (xs : List Int) (s t : Int) (w : World) (hA : Holds w A (nums xs)) (hx : xs.length = n) (hp : isNight xs s t = true) :
    Calls Tryd.prog 95 #[.agg #[.slice A n c, .int .i64 s, .int .i64 t]] w (StrPost (nightText xs s t) w) := by
  obtain ⟨h8, hs, hxs, htt, -⟩ := isNight_times hp
  have hl6 := digs_le htt.2
  have hpl := partyText_le h8 hs.2 fun x hx => (hxs x hx).2
  have HX := Lib.hid hx
  have HXS := Lib.hid hxs
  have hA2 := hA.alloc (.cells #[.slice A n c, .int .i64 s, .int .i64 t] 64)
  have h0 := Whole.fresh w 64 #[.slice A n c, .int .i64 s, .int .i64 t]
  obtain ⟨c0, c1, c2⟩ := h0.cells3
  have ht := below1 w (.cells #[.slice A n c, .int .i64 s, .int .i64 t] 64)
  have hn8 : n ≤ 8 := by rw [← hx]; exact h8
  obtain ⟨M, hM⟩ : ∃ M, M = digs t ++ [42] := ⟨_, rfl⟩
  have hMl : M.length ≤ 7 := by rw [hM]; simp; omega
  have hcat1 := cat_to (digs t) [42] M hM (by omega) (by simp)
  obtain ⟨P, hP⟩ : ∃ P, P = partyText xs s := ⟨_, rfl⟩
  obtain ⟨R, hR⟩ : ∃ R, R = nightText xs s t := ⟨_, rfl⟩
  have hcat2 := cat_to M P R (by rw [hR, hM, hP]; rfl) (by omega) (by rw [hP]; omega)
  have HP := Lib.hid hP
  rw [← hR]
  clear hx hxs hp h8 hM hMl hP hR hpl hl6
  go_enter Tryd.func95, Tryd.ntmps95
  go_wp2_with fail
  go_region_held3 (fun w' => w'.cell? ⟨w.heap.size, 0, none⟩ = some (.slice A n c) ∧ w'.cell? ⟨w.heap.size, 1, none⟩ = some (.int .i64 s) ∧ w'.cell? ⟨w.heap.size, 2, none⟩ = some (.int .i64 t)) (go_keep)
    (first | (go_at_call 112; refine (l1Num_any t _ htt.1 htt.2).mono ?_; rintro e w1 ⟨rfl, hb1⟩; first | (have ht1 := below_then ht2 hb1 ht2.size; obtain ⟨k0, k1, k2⟩ := ((h0.drew.below hb2).below hb1).cells3) | (have ht1 := below_then ht.drew hb1 ht.size; obtain ⟨k0, k1, k2⟩ := (h0.drew.below hb1).cells3)) | (go_at_call 60; first | (refine (paShown_any A n c xs s _ (by exact hA2.drew.below hb1) HX.out hn8 hs HXS.out).mono ?_; rintro e w2 ⟨rfl, hb2⟩; rw [← HP.out]; have ht2 := below_then ht1 hb2 ht1.size; obtain ⟨l0, l1, l2⟩ := ((h0.drew.below hb1).below hb2).cells3) | (refine (paShown_any A n c xs s _ (by exact hA2.drew) HX.out hn8 hs HXS.out).mono ?_; rintro e w2 ⟨rfl, hb2⟩; rw [← HP.out]; have ht2 := below_then ht.drew hb2 ht.size; obtain ⟨l0, l1, l2⟩ := (h0.drew.below hb2).cells3)))
  go_wp2
  go_ret
  exact ⟨rfl, ht2⟩

set_option maxHeartbeats 1600000 in
set_option maxRecDepth 100000 in
theorem specNightText_any (A : Option Addr) (n c : Nat) (xs : List Int) (s t : Int) (w : World) (hA : Holds w A (nums xs)) (hx : xs.length = n) (hn : n ≤ 9223372036854775807) :
    Calls Tryd.prog 41 #[.agg #[.slice A n c, .int .i64 s, .int .i64 t]] w (TextPost (nightTextOf xs s t) (isNight xs s t) w) := by
  have HX := Lib.hid hx
  have hA2 := hA.alloc (.cells #[.slice A n c, .int .i64 s, .int .i64 t] 64)
  have h0 := Whole.fresh w 64 #[.slice A n c, .int .i64 s, .int .i64 t]
  obtain ⟨c0, c1, c2⟩ := h0.cells3
  have ht0 := below1 w (.cells #[.slice A n c, .int .i64 s, .int .i64 t] 64)
  clear hx
  go_enter Tryd.func41, Tryd.ntmps41
  go_wp2_with fail
  refine (toGood_any A n c xs s t _ hA2 HX.out hn).mono ?_
  rintro e w1 ⟨rfl, hb⟩
  have ht := below_then ht0 hb (by simp)
  replace h0 := h0.below hb
  replace hA2 := hA2.below hb
  clear hb ht0 c0 c1 c2
  obtain ⟨c0, c1, c2⟩ := h0.cells3
  cases hp : isNight xs s t
  · have HO := Lib.hid (show nightTextOf xs s t = [] by rw [nightTextOf, hp]; rfl)
    have HP := Lib.hid hp
    clear hp
    go_wp2
    go_ret2
    exact ⟨by rw [HO.out, HP.out]; rfl, ht⟩
  · have HO := Lib.hid (show nightTextOf xs s t = nightText xs s t by rw [nightTextOf, hp]; rfl)
    have HP := Lib.hid hp
    clear hp
    go_wp2_with fail
    refine (toText_any A n c xs s t _ hA2 HX.out HP.out).mono ?_
    rintro e w2 ⟨rfl, hb⟩
    replace ht := below_then ht hb ht.size
    clear hb c0 c1 c2
    go_wp2
    go_ret2
    exact ⟨by rw [HO.out, HP.out]; rfl, ht⟩

set_option maxHeartbeats 1600000 in
set_option maxRecDepth 100000 in
theorem implNightText_any (A : Option Addr) (n c : Nat) (xs : List Int) (s t : Int) (w : World) (hA : Holds w A (nums xs)) (hx : xs.length = n) (hn : n ≤ 9223372036854775807) (hT : Tab w) :
    Calls Tryd.prog 43 #[.agg #[.slice A n c, .int .i64 s, .int .i64 t]] w (TextPost (nightTextOf xs s t) (isNight xs s t) w) := by
  have HX := Lib.hid hx
  have hA2 := hA.alloc (.cells #[.slice A n c, .int .i64 s, .int .i64 t] 64)
  have h0 := Whole.fresh w 64 #[.slice A n c, .int .i64 s, .int .i64 t]
  obtain ⟨c0, c1, c2⟩ := h0.cells3
  have ht0 := below1 w (.cells #[.slice A n c, .int .i64 s, .int .i64 t] 64)
  clear hx
  go_enter Tryd.func43, Tryd.ntmps43
  go_wp2_with fail
  refine (implIsNight_any A n c xs s t _ hA2 HX.out hn).mono ?_
  rintro e w1 ⟨rfl, hb⟩
  have ht := below_then ht0 hb (by simp)
  replace h0 := h0.below hb
  replace hA2 := hA2.below hb
  clear hb ht0 c0 c1 c2
  obtain ⟨c0, c1, c2⟩ := h0.cells3
  cases hp : isNight xs s t
  · have HO := Lib.hid (show nightTextOf xs s t = [] by rw [nightTextOf, hp]; rfl)
    have HP := Lib.hid hp
    clear hp
    go_wp2
    go_ret2
    exact ⟨by rw [HO.out, HP.out]; rfl, ht⟩
  · have HO := Lib.hid (show nightTextOf xs s t = nightText xs s t by rw [nightTextOf, hp]; rfl)
    have HP := Lib.hid hp
    obtain ⟨h8, hs, hxs, htt, hpar⟩ := isNight_times hp
    have hl6 := digs_le htt.2
    have hpl := partyText_le h8 hs.2 fun x hx => (hxs x hx).2
    have HPT := Lib.hid (show partyTextOf xs s = partyText xs s by rw [partyTextOf, hpar]; rfl)
    have HPA := Lib.hid hpar
    clear hp hpar hxs
    go_wp2_with fail
    refine (implPartyText_any A n c xs s _ hA2 HX.out hn (hT.below ht)).mono ?_
    rintro e w2 ⟨rfl, hb⟩
    replace ht := below_then ht hb ht.size
    replace h0 := h0.below hb
    rw [HPT.out, HPA.out]
    clear hb c0 c1 c2 hA2
    obtain ⟨c0, c1, c2⟩ := h0.cells3
    go_wp2_with fail
    refine (itoa_any t _ (hT.below ht) htt.1 (by omega)).mono ?_
    rintro e w3 ⟨rfl, hb⟩
    replace ht := below_then ht hb ht.size
    clear hb c0 c1 c2 h0
    obtain ⟨M, hM⟩ : ∃ M, M = digs t ++ [42] := ⟨_, rfl⟩
    have hMl : M.length ≤ 7 := by rw [hM]; simp; omega
    have hcat1 := cat_to (digs t) [42] M hM (by omega) (by simp)
    obtain ⟨R, hR⟩ : ∃ R, R = nightText xs s t := ⟨_, rfl⟩
    have hcat2 := cat_to M (partyText xs s) R (by rw [hR, hM]; rfl) (by omega) (by omega)
    rw [← hR] at HO
    clear hM hR
    go_wp2
    go_ret2
    exact ⟨by rw [HO.out, HP.out]; rfl, ht⟩
end Go.Proofs.YtedkanncdkofaaaDoor

namespace Go.Proofs.YtedkanncdkofaaaDoor
open Go.RowKit


set_option maxHeartbeats 400000 in
theorem szNight_any (A : Option Addr) (n c : Nat) (s u l : Int) (w : World) (hn : n ≤ 9223372036854775807) (h0 : 0 ≤ l) (h1 : l ≤ 1048576) :
    Calls Tryd.prog 40 #[.agg #[.slice A n c, .int .i64 s, .int .i64 u], .int .i64 l] w fun e w' => e = .returned (.int .i64 (if l < n then -1 else l - n)) ∧ Below w.heap.size w w' := by
  by_cases h : l < n
  all_goals
    go_enter Tryd.func40, Tryd.ntmps40
    go_wp2_with fail
    refine (szIntS_any A n c l _ hn h0 h1).mono ?_
    rintro e w' ⟨rfl, rfl⟩
    first | rw [if_pos (by assumption)] | rw [if_neg (by omega)]
    go_wp2
    go_ret
    exact ⟨rfl, (Below.refl _ _).alloc (Nat.le_refl _) _⟩

set_option maxHeartbeats 400000 in
theorem toNight_any (A : Option Addr) (n c : Nat) (xs : List Int) (s u : Int) (w : World) (hA : Holds w A (nums xs)) (hx : xs.length = n) (hn : n ≤ 1048576) :
    Calls Tryd.prog 42 #[.agg #[.slice A n c, .int .i64 s, .int .i64 u]] w fun e w' => e = .returned (.agg #[.slice (some ⟨w.heap.size + 1 + 1 + 1, 0, none⟩) n n, .int .i64 s, .int .i64 u]) ∧ Whole w' (w.heap.size + 1 + 1 + 1) 3 (nums xs).toArray ∧ Below w.heap.size w w' := by
  have HX := Lib.hid hx
  clear hx
  go_enter Tryd.func42, Tryd.ntmps42
  go_wp2_with fail
  refine (toIntS_any A n c xs _ (((hA.alloc _).alloc _).alloc _) HX.out hn).mono ?_
  rintro e w1 ⟨rfl, hw, hb, hs⟩
  have hy0 := ((Whole.fresh (w.alloc (.cells #[.slice A n c, .int .i64 s, .int .i64 u] 61)) 64 #[.slice none 0 0, .int .i64 0, .int .i64 0]).alloc (.cells #[.slice none 0 0, .int .i64 0, .int .i64 0] 64)).below hb
  have hz0 := (Whole.fresh ((w.alloc (.cells #[.slice A n c, .int .i64 s, .int .i64 u] 61)).alloc (.cells #[.slice none 0 0, .int .i64 0, .int .i64 0] 64)) 64 #[.slice none 0 0, .int .i64 0, .int .i64 0]).below hb
  have ha0 := (((Whole.fresh w 61 #[.slice A n c, .int .i64 s, .int .i64 u]).alloc (.cells #[.slice none 0 0, .int .i64 0, .int .i64 0] 64)).alloc (.cells #[.slice none 0 0, .int .i64 0, .int .i64 0] 64)).below hb
  simp only [World.size_alloc] at hy0 hz0
  obtain ⟨ac0, ac1, ac2⟩ := ha0.cells3
  obtain ⟨yc0, yc1, yc2⟩ := hy0.cells3
  obtain ⟨zc0, zc1, zc2⟩ := hz0.cells3
  have yf0 := hy0.open_ 0
  have yf1 := hy0.open_ 1
  have yf2 := hy0.open_ 2
  have zf0 := hz0.open_ 0
  have zf1 := hz0.open_ 1
  have zf2 := hz0.open_ 2
  have HS := Lib.hid hs
  have hz : w.heap.size + 3 < w1.heap.size := by have := HS.out; simp at this; omega
  clear hs
  have hw' : Whole w1 (w.heap.size + 1 + 1 + 1) 3 (nums xs).toArray := by simpa using hw
  have hb' : Below w.heap.size w w1 := below_then (below3 w _ _ _) hb (by simp; omega)
  clear hw hy0 hz0 ha0 hb hA
  go_wp2
  refine bodyPost_ret (v := .agg #[.slice (some ⟨w.heap.size + 1 + 1 + 1, 0, none⟩) n n, .int .i64 s, .int .i64 u]) (by simp [results, Tryd.results42, go_sem, yc0, yc1, yc2, zc0, zc1, zc2]) rfl ⟨rfl, ?_, ?_⟩
  · exact (((((hw'.off (by omega)).off (by omega)).off (by omega)).off (by omega)).off (by omega)).off (by omega)
  · exact below_set (below_set (below_set (below_set (below_set (below_set hb' (by omega)) (by omega)) (by omega)) (by omega)) (by omega)) (by omega)

/-- The same, the new row's block told by a letter. -/
theorem toNight_own (A : Option Addr) (n c : Nat) (xs : List Int) (s u : Int) (w : World) (hA : Holds w A (nums xs)) (hx : xs.length = n) (hn : n ≤ 1048576) :
    Calls Tryd.prog 42 #[.agg #[.slice A n c, .int .i64 s, .int .i64 u]] w fun e w' => ∃ g, e = .returned (.agg #[.slice (some ⟨g, 0, none⟩) n n, .int .i64 s, .int .i64 u]) ∧ w.heap.size ≤ g ∧ Whole w' g 3 (nums xs).toArray ∧ Below w.heap.size w w' :=
  (toNight_any A n c xs s u w hA hx hn).mono fun _ _ ⟨he, hw, hb⟩ => ⟨_, he, by omega, hw, hb⟩

/-- Two parties of one reading are the same. -/
theorem eqNight_yes (A B : Option Addr) (n c d : Nat) (xs : List Int) (s u : Int) (w : World) (hA : Holds w A (nums xs)) (hB : Holds w B (nums xs)) (hx : xs.length = n) (hn : n ≤ 9223372036854775807) :
    Calls Tryd.prog 44 #[.agg #[.slice A n c, .int .i64 s, .int .i64 u], .agg #[.slice B n d, .int .i64 s, .int .i64 u]] w fun e w' => e = .returned (.bool true) ∧ Below w.heap.size w w' := by
  have HX := Lib.hid hx
  have HI := Lib.hid (sameInts_yes (a := xs) (b := xs) rfl)
  clear hx
  have hss : (s != s) = false := by simp
  have huu : (u != u) = false := by simp
  have hb2 := below2 w (.cells #[.slice A n c, .int .i64 s, .int .i64 u] 64) (.cells #[.slice B n d, .int .i64 s, .int .i64 u] 64)
  go_enter Tryd.func44, Tryd.ntmps44
  go_wp2_with fail
  refine (eqIntS_any A B n n c d xs xs _ (by exact hA.below hb2) (by exact hB.below hb2) HX.out HX.out hn hn).mono ?_
  rintro e w1 ⟨rfl, k, rfl⟩
  rw [HI.out]
  go_wp2
  go_ret
  exact ⟨rfl, below_draws hb2 k⟩

set_option maxHeartbeats 400000 in
theorem markNight_any (A : Option Addr) (n c lo hi : Nat) (xs : List Value) (s u q : Int) (w : World) (hf : Fresh w lo hi 3 A xs) (hx : xs.length = n) (h0 : 0 ≤ q) (h1 : q ≤ 4611686018427387904) (hn : n ≤ 1048576) :
    Calls Tryd.prog 47 #[.agg #[.slice A n c, .int .i64 s, .int .i64 u], .int .i64 q] w fun e w' => e = .returned (.int .i64 (q + n)) ∧ Span lo hi w w' ∧ Fresh w' lo hi 3 A (nums (marksI q n)) := by
  have HX := Lib.hid hx
  clear hx
  go_enter Tryd.func47, Tryd.ntmps47
  go_wp2_with fail
  refine (markIntS_any A n c lo hi xs q _ (hf.alloc _) HX.out h0 h1 hn).mono ?_
  rintro e w1 ⟨rfl, hs, hf1⟩
  go_wp2
  go_ret
  exact ⟨rfl, (Span.of_below (below1 w _) lo hi).trans hs, hf1⟩

end Go.Proofs.YtedkanncdkofaaaDoor

namespace Go.Proofs.YtedkanncdkofaaaDoor
open Go.RowKit

set_option maxHeartbeats 800000 in
set_option linter.unusedVariables false in
theorem lawNightText_big0 (A0 : Option Addr) (n0 c0 : Nat) (x0 : List Int) (k0 : Int) (k1 : Int) (w : World) (h0 : Holds w A0 (nums x0)) (hx0 : x0.length = n0) (hn0 : n0 ≤ 9223372036854775807) (hT : Tab w)  (hbig : 1048576 - (n0 : Int) < 0) :
    Calls Tryd.prog 9 #[.agg #[.slice A0 n0 c0, .int .i64 k0, .int .i64 k1]] w fun e w' => e = .returned (.bool true) ∧ Below w.heap.size w w' := by
  have hb0 := (Whole.fresh w 61 #[.slice A0 n0 c0, .int .i64 k0, .int .i64 k1])
  have ht := below1 w (.cells #[.slice A0 n0 c0, .int .i64 k0, .int .i64 k1] 61)
  have HX0 := Lib.hid hx0
  clear hx0
  obtain ⟨hb0_0, hb0_1, hb0_2⟩ := hb0.cells3
  have hb0_l := hb0.lt
  go_enter Tryd.func9, Tryd.ntmps9
  go_wp2_with fail
  refine (szNight_any A0 n0 c0 k0 k1 (1048576) _ (by omega) (by omega) (by omega)).mono ?_
  rintro e v1 ⟨rfl, hb⟩
  rw [if_pos (by omega)]
  have hz1 : w.heap.size + 1 ≤ v1.heap.size := by have := hb.size; simpa using this
  replace ht := below_then ht hb ht.size
  replace hb0 := hb0.below hb
  clear hb
  clear hb0_0 hb0_1 hb0_2 hb0_l
  go_wp2
  go_ret
  exact ⟨rfl, ht⟩

set_option maxHeartbeats 12800000 in
set_option maxRecDepth 100000 in
set_option linter.unusedSimpArgs false in
set_option linter.unusedVariables false in
theorem lawNightText_small (A0 : Option Addr) (n0 c0 : Nat) (x0 : List Int) (k0 : Int) (k1 : Int) (w : World) (h0 : Holds w A0 (nums x0)) (hx0 : x0.length = n0) (hn0 : n0 ≤ 9223372036854775807) (hT : Tab w) (g0 : 0 ≤ 1048576 - (n0 : Int)) :
    Calls Tryd.prog 9 #[.agg #[.slice A0 n0 c0, .int .i64 k0, .int .i64 k1]] w fun e w' => e = .returned (.bool true) ∧ Below w.heap.size w w' := by
  have hb0 := (Whole.fresh w 61 #[.slice A0 n0 c0, .int .i64 k0, .int .i64 k1])
  have ht := below1 w (.cells #[.slice A0 n0 c0, .int .i64 k0, .int .i64 k1] 61)
  have HX0 := Lib.hid hx0
  clear hx0
  obtain ⟨hb0_0, hb0_1, hb0_2⟩ := hb0.cells3
  have hb0_l := hb0.lt
  go_enter Tryd.func9, Tryd.ntmps9
  -- region 2
  go_wp2_with fail
  refine (szNight_any A0 n0 c0 k0 k1 (1048576) _ (by omega) (by omega) (by omega)).mono ?_
  rintro e v1 ⟨rfl, hb⟩
  rw [if_neg (by omega)]
  have hz1 : w.heap.size + 1 ≤ v1.heap.size := by have := hb.size; simpa using this
  replace ht := below_then ht hb ht.size
  replace hb0 := hb0.below hb
  clear hb
  clear hb0_0 hb0_1 hb0_2 hb0_l
  obtain ⟨hb0_0, hb0_1, hb0_2⟩ := hb0.cells3
  have hb0_l := hb0.lt
  -- region 5
  go_wp2_with fail
  refine (toNight_own A0 n0 c0 x0 k0 k1 _ (by exact h0.below ht) HX0.out (by omega)).mono ?_
  rintro e v2 ⟨gp0, rfl, hgp0, hwp0, hb⟩
  have hz2 : v1.heap.size ≤ v2.heap.size := by have := hb.size; simpa using this
  replace ht := below_then ht hb ht.size
  replace hb0 := hb0.below hb
  have hp0 := Fresh.of_whole (lo := v1.heap.size) (hi := v2.heap.size) hwp0 (by simpa using hgp0) hwp0.lt
  clear hgp0 hwp0
  clear hb
  clear hb0_0 hb0_1 hb0_2 hb0_l
  obtain ⟨hb0_0, hb0_1, hb0_2⟩ := hb0.cells3
  have hb0_l := hb0.lt
  go_wp2_with fail
  refine (specNightText_any _ n0 _ x0 k0 k1 _ (by exact hp0.holds) HX0.out (by omega)).mono ?_
  rintro e v3 ⟨rfl, hb⟩
  have hz3 : v2.heap.size ≤ v3.heap.size := by have := hb.size; simpa using this
  replace ht := below_then ht hb ht.size
  replace hb0 := hb0.below hb
  replace hp0 := hp0.below hb
  clear hb
  clear hp0
  clear hb0_0 hb0_1 hb0_2 hb0_l
  obtain ⟨hb0_0, hb0_1, hb0_2⟩ := hb0.cells3
  have hb0_l := hb0.lt
  -- region 6
  go_wp2_with fail
  refine (toNight_own A0 n0 c0 x0 k0 k1 _ (by exact h0.below ht) HX0.out (by omega)).mono ?_
  rintro e v4 ⟨gx0, rfl, hgx0, hwx0, hb⟩
  have hz4 : v3.heap.size ≤ v4.heap.size := by have := hb.size; simpa using this
  replace ht := below_then ht hb ht.size
  replace hb0 := hb0.below hb
  have hx0 := Fresh.of_whole (lo := v3.heap.size) (hi := v4.heap.size) hwx0 (by simpa using hgx0) hwx0.lt
  clear hgx0 hwx0
  clear hb
  have hx90 := Whole.fresh v4 64 #[.slice (some ⟨gx0, 0, none⟩) n0 n0, .int .i64 k0, .int .i64 k1]
  replace ht := ht.alloc ht.size (.cells #[.slice (some ⟨gx0, 0, none⟩) n0 n0, .int .i64 k0, .int .i64 k1] 64)
  replace hb0 := hb0.alloc (.cells #[.slice (some ⟨gx0, 0, none⟩) n0 n0, .int .i64 k0, .int .i64 k1] 64)
  replace hx0 := hx0.alloc (.cells #[.slice (some ⟨gx0, 0, none⟩) n0 n0, .int .i64 k0, .int .i64 k1] 64)
  clear hb0_0 hb0_1 hb0_2 hb0_l
  obtain ⟨hb0_0, hb0_1, hb0_2⟩ := hb0.cells3
  have hb0_l := hb0.lt
  obtain ⟨hx90_0, hx90_1, hx90_2⟩ := hx90.cells3
  have hx90_l := hx90.lt
  -- region 7
  go_wp2_with fail
  refine (implNightText_any _ n0 _ x0 k0 k1 _ (by exact hx0.holds) HX0.out (by omega) (hT.below ht)).mono ?_
  rintro e v5 ⟨rfl, hb⟩
  have hz5 : v4.heap.size + 1 ≤ v5.heap.size := by have := hb.size; simpa using this
  replace ht := below_then ht hb ht.size
  replace hb0 := hb0.below hb
  replace hx0 := hx0.below hb
  replace hx90 := hx90.below hb
  clear hb
  clear hb0_0 hb0_1 hb0_2 hb0_l hx90_0 hx90_1 hx90_2 hx90_l
  obtain ⟨hb0_0, hb0_1, hb0_2⟩ := hb0.cells3
  have hb0_l := hb0.lt
  obtain ⟨hx90_0, hx90_1, hx90_2⟩ := hx90.cells3
  have hx90_l := hx90.lt
  -- region 10
  clear hb0_0 hb0_1 hb0_2 hb0_l hx90_0 hx90_1 hx90_2 hx90_l
  go_wp2_with fail
  refine wp_region_held_drew (S := (fun w' => w'.cell? ⟨w.heap.size, 0, none⟩ = some (.slice A0 n0 c0) ∧ w'.cell? ⟨w.heap.size, 1, none⟩ = some (.int .i64 k0) ∧ w'.cell? ⟨w.heap.size, 2, none⟩ = some (.int .i64 k1) ∧ w'.cell? ⟨v4.heap.size, 0, none⟩ = some (.slice (some ⟨gx0, 0, none⟩) n0 n0) ∧ w'.cell? ⟨v4.heap.size, 1, none⟩ = some (.int .i64 k0) ∧ w'.cell? ⟨v4.heap.size, 2, none⟩ = some (.int .i64 k1))) (by kernel_rfl) ⟨hb0.drew.cell 0, hb0.drew.cell 1, hb0.drew.cell 2, hx90.drew.cell 0, hx90.drew.cell 1, hx90.drew.cell 2⟩ (fun hHeld => ?_)
  replace ht := ht.drew
  replace hb0 := hb0.drew
  replace hx0 := hx0.drew
  replace hx90 := hx90.drew
  refine wpAnyH_take (i := 0) (v := ?_) rfl (by kernel_rfl) (by kernel_rfl) (by kernel_rfl) (fun _ _ _ h => h) (Or.inl ⟨rfl, ?_⟩) hHeld ?_
  rotate_left
  · intro w' hS; obtain ⟨s0, s1, s2, s3, s4, s5⟩ := hS; go_simp <;> with_reducible rfl
  simp only [Act.put, List.getElem_toArray, List.getElem_cons_succ, List.getElem_cons_zero, List.setIfInBounds_toArray, List.set_cons_succ, List.set_cons_zero]
  refine wpAnyH_take (i := 1) (v := ?_) rfl (by kernel_rfl) (by kernel_rfl) (by kernel_rfl) (fun _ _ _ h => h) (Or.inl ⟨rfl, ?_⟩) hHeld ?_
  rotate_left
  · intro w' hS; obtain ⟨s0, s1, s2, s3, s4, s5⟩ := hS; go_simp <;> with_reducible rfl
  simp only [Act.put, List.getElem_toArray, List.getElem_cons_succ, List.getElem_cons_zero, List.setIfInBounds_toArray, List.set_cons_succ, List.set_cons_zero]
  refine wpAnyH_ready (rs := [2]) (by kernel_rfl) (by simp) (AllReadyH.cons rfl (fun K hK => ?_) AllReadyH.nil)
  go_simp
  refine (toNight_own A0 n0 c0 x0 k0 k1 _ (by exact h0.below ht) HX0.out (by omega)).mono ?_
  rintro e v6 ⟨gy0, rfl, hgy0, hwy0, hb⟩
  have hz6 : v5.heap.size ≤ v6.heap.size := by have := hb.size; simpa using this
  replace ht := below_then ht hb ht.size
  replace hb0 := hb0.below hb
  replace hx0 := hx0.below hb
  replace hx90 := hx90.below hb
  have hy0 := Fresh.of_whole (lo := v5.heap.size) (hi := v6.heap.size) hwy0 (by simpa using hgy0) hwy0.lt
  clear hgy0 hwy0
  clear hb
  refine hK.out _ _ ⟨hb0.cell 0, hb0.cell 1, hb0.cell 2, hx90.cell 0, hx90.cell 1, hx90.cell 2⟩ (fun hHeld => ?_)
  clear hK K
  try simp only [Act.put, List.getElem_toArray, List.getElem_cons_succ, List.getElem_cons_zero, List.setIfInBounds_toArray, List.set_cons_succ, List.set_cons_zero]
  refine wpAnyH_ready (rs := [3]) (by kernel_rfl) (by simp) (AllReadyH.cons rfl (fun K hK => ?_) AllReadyH.nil)
  go_simp
  refine (eqNight_yes _ _ n0 _ _ x0 k0 k1 _ (by exact hx0.holds) (by exact hy0.holds) HX0.out (by omega)).mono ?_
  rintro e v7 ⟨rfl, hb⟩
  have hz7 : v6.heap.size ≤ v7.heap.size := by have := hb.size; simpa using this
  replace ht := below_then ht hb ht.size
  replace hb0 := hb0.below hb
  replace hx0 := hx0.below hb
  replace hx90 := hx90.below hb
  replace hy0 := hy0.below hb
  clear hb
  clear hy0
  refine hK.out _ _ ⟨hb0.cell 0, hb0.cell 1, hb0.cell 2, hx90.cell 0, hx90.cell 1, hx90.cell 2⟩ (fun hHeld => ?_)
  clear hK K
  try simp only [Act.put, List.getElem_toArray, List.getElem_cons_succ, List.getElem_cons_zero, List.setIfInBounds_toArray, List.set_cons_succ, List.set_cons_zero]
  refine wpAnyH_take (i := 4) (v := ?_) rfl (by kernel_rfl) (by kernel_rfl) (by kernel_rfl) (fun _ _ _ h => h) (Or.inl ⟨rfl, ?_⟩) hHeld ?_
  rotate_left
  · intro w' hS; obtain ⟨s0, s1, s2, s3, s4, s5⟩ := hS; go_simp <;> with_reducible rfl
  simp only [Act.put, List.getElem_toArray, List.getElem_cons_succ, List.getElem_cons_zero, List.setIfInBounds_toArray, List.set_cons_succ, List.set_cons_zero]
  refine wpAnyH_done (by kernel_rfl) ?_ _
  clear hHeld
  obtain ⟨hb0_0, hb0_1, hb0_2⟩ := hb0.cells3
  have hb0_l := hb0.lt
  obtain ⟨hx90_0, hx90_1, hx90_2⟩ := hx90.cells3
  have hx90_l := hx90.lt
  go_wp2
  go_ret
  exact ⟨rfl, ht⟩

theorem lawNightText_all (A0 : Option Addr) (n0 c0 : Nat) (x0 : List Int) (k0 : Int) (k1 : Int) (w : World) (h0 : Holds w A0 (nums x0)) (hx0 : x0.length = n0) (hn0 : n0 ≤ 9223372036854775807) (hT : Tab w) :
    Calls Tryd.prog 9 #[.agg #[.slice A0 n0 c0, .int .i64 k0, .int .i64 k1]] w fun e w' => e = .returned (.bool true) ∧ Below w.heap.size w w' := by
  rcases (inferInstance : Decidable (0 ≤ 1048576 - (n0 : Int))) with g0 | g0
  · exact lawNightText_big0 A0 n0 c0 x0 k0 k1 w h0 hx0 hn0 hT  (by omega)
  exact lawNightText_small A0 n0 c0 x0 k0 k1 w h0 hx0 hn0 hT g0
end Go.Proofs.YtedkanncdkofaaaDoor
