/-
  What is proved: contracts of the laws' own helpers for nights and camps: their size, their copy, their comparison, their marks. Conditions: the given lists are read as they lie; a copy is of at most 1,048,576 values.
  What is proved: contracts of the model's and the program's tests of a night, and of the model's test of a camp. Conditions: the night's times are read as they lie.
  What is proved: contracts of NightText, of the model and of the program. Conditions: the times are read as they lie; the table of powers of ten lies as told (the program).
  What is proved: the model and the program read the same night, or none, out of each text. Conditions: none.
  What is proved: the contract of the program's ParseNight. Conditions: the library's variables lie as told; the text has at most 2^20 bytes.
  What is proved: the contract of the model's toParse. Conditions: the text has at most 2^20 bytes.
  What is proved: the contract of the model's ParseNight, and what both say of it in the law's words. Conditions: the text has at most 2^20 bytes.
  What is proved: the law FnExactParseNight returns true at every argument, and leaves all that was there as it was. Conditions: the arguments are read as they lie.
-/
import Derived.Deep.DeepCutAuto
import Derived.Deep.RegionHeld3
import Derived.Test.YtedkanncdkofaaaDoorJ1ParseParty
set_option linter.unusedSimpArgs false
set_option linter.unusedVariables false
namespace Go.Proofs.YtedkanncdkofaaaDoor
open Go.RowKit


set_option maxHeartbeats 400000 in
theorem szNight_any (A : Option Addr) (n c : Nat) (s u l : Int) (w : World) (hn : n ≤ 9223372036854775807) (h0 : 0 ≤ l) (h1 : l ≤ 1048576) :
    Calls Tryd.prog 40 #[.agg #[.slice A n c, .int .i64 s, .int .i64 u], .int .i64 l] w fun e w' => e = .returned (.int .i64 (if l < n then -1 else l - n)) ∧ Below w.heap.size w w' := by
  by_cases h : l < n
  all_goals
    go_enter Tryd.func40, Tryd.ntmps40
    go_wp2_with fail
    refine (szIntS_any A n c l _ hn h0 h1).mono ?_
    rintro e w' ⟨rfl, rfl⟩
    first | rw [if_pos (by assumption)] | rw [if_neg (by omega)]
    go_wp2
    go_ret
    exact ⟨rfl, (Below.refl _ _).alloc (Nat.le_refl _) _⟩

set_option maxHeartbeats 400000 in
theorem toNight_any (A : Option Addr) (n c : Nat) (xs : List Int) (s u : Int) (w : World) (hA : Holds w A (nums xs)) (hx : xs.length = n) (hn : n ≤ 1048576) :
    Calls Tryd.prog 42 #[.agg #[.slice A n c, .int .i64 s, .int .i64 u]] w fun e w' => e = .returned (.agg #[.slice (some ⟨w.heap.size + 1 + 1 + 1, 0, none⟩) n n, .int .i64 s, .int .i64 u]) ∧ Whole w' (w.heap.size + 1 + 1 + 1) 3 (nums xs).toArray ∧ Below w.heap.size w w' := by
  have HX := Lib.hid hx
  clear hx
  go_enter Tryd.func42, Tryd.ntmps42
  go_wp2_with fail
  refine (toIntS_any A n c xs _ (((hA.alloc _).alloc _).alloc _) HX.out hn).mono ?_
  rintro e w1 ⟨rfl, hw, hb, hs⟩
  have hy0 := ((Whole.fresh (w.alloc (.cells #[.slice A n c, .int .i64 s, .int .i64 u] 61)) 64 #[.slice none 0 0, .int .i64 0, .int .i64 0]).alloc (.cells #[.slice none 0 0, .int .i64 0, .int .i64 0] 64)).below hb
  have hz0 := (Whole.fresh ((w.alloc (.cells #[.slice A n c, .int .i64 s, .int .i64 u] 61)).alloc (.cells #[.slice none 0 0, .int .i64 0, .int .i64 0] 64)) 64 #[.slice none 0 0, .int .i64 0, .int .i64 0]).below hb
  have ha0 := (((Whole.fresh w 61 #[.slice A n c, .int .i64 s, .int .i64 u]).alloc (.cells #[.slice none 0 0, .int .i64 0, .int .i64 0] 64)).alloc (.cells #[.slice none 0 0, .int .i64 0, .int .i64 0] 64)).below hb
  simp only [World.size_alloc] at hy0 hz0
  obtain ⟨ac0, ac1, ac2⟩ := ha0.cells3
  obtain ⟨yc0, yc1, yc2⟩ := hy0.cells3
  obtain ⟨zc0, zc1, zc2⟩ := hz0.cells3
  have yf0 := hy0.open_ 0
  have yf1 := hy0.open_ 1
  have yf2 := hy0.open_ 2
  have zf0 := hz0.open_ 0
  have zf1 := hz0.open_ 1
  have zf2 := hz0.open_ 2
  have HS := Lib.hid hs
  have hz : w.heap.size + 3 < w1.heap.size := by have := HS.out; simp at this; omega
  clear hs
  have hw' : Whole w1 (w.heap.size + 1 + 1 + 1) 3 (nums xs).toArray := by simpa using hw
  have hb' : Below w.heap.size w w1 := below_then (below3 w _ _ _) hb (by simp; omega)
  clear hw hy0 hz0 ha0 hb hA
  go_wp2
  refine bodyPost_ret (v := .agg #[.slice (some ⟨w.heap.size + 1 + 1 + 1, 0, none⟩) n n, .int .i64 s, .int .i64 u]) (by simp [results, Tryd.results42, go_sem, yc0, yc1, yc2, zc0, zc1, zc2]) rfl ⟨rfl, ?_, ?_⟩
  · exact (((((hw'.off (by omega)).off (by omega)).off (by omega)).off (by omega)).off (by omega)).off (by omega)
  · exact below_set (below_set (below_set (below_set (below_set (below_set hb' (by omega)) (by omega)) (by omega)) (by omega)) (by omega)) (by omega)

/-- The same, the new row's block told by a letter. -/
theorem toNight_own (A : Option Addr) (n c : Nat) (xs : List Int) (s u : Int) (w : World) (hA : Holds w A (nums xs)) (hx : xs.length = n) (hn : n ≤ 1048576) :
    Calls Tryd.prog 42 #[.agg #[.slice A n c, .int .i64 s, .int .i64 u]] w fun e w' => ∃ g, e = .returned (.agg #[.slice (some ⟨g, 0, none⟩) n n, .int .i64 s, .int .i64 u]) ∧ w.heap.size ≤ g ∧ Whole w' g 3 (nums xs).toArray ∧ Below w.heap.size w w' :=
  (toNight_any A n c xs s u w hA hx hn).mono fun _ _ ⟨he, hw, hb⟩ => ⟨_, he, by omega, hw, hb⟩

/-- Two parties of one reading are the same. -/
theorem eqNight_yes (A B : Option Addr) (n c d : Nat) (xs : List Int) (s u : Int) (w : World) (hA : Holds w A (nums xs)) (hB : Holds w B (nums xs)) (hx : xs.length = n) (hn : n ≤ 9223372036854775807) :
    Calls Tryd.prog 44 #[.agg #[.slice A n c, .int .i64 s, .int .i64 u], .agg #[.slice B n d, .int .i64 s, .int .i64 u]] w fun e w' => e = .returned (.bool true) ∧ Below w.heap.size w w' := by
  have HX := Lib.hid hx
  have HI := Lib.hid (sameInts_yes (a := xs) (b := xs) rfl)
  clear hx
  have hss : (s != s) = false := by simp
  have huu : (u != u) = false := by simp
  have hb2 := below2 w (.cells #[.slice A n c, .int .i64 s, .int .i64 u] 64) (.cells #[.slice B n d, .int .i64 s, .int .i64 u] 64)
  go_enter Tryd.func44, Tryd.ntmps44
  go_wp2_with fail
  refine (eqIntS_any A B n n c d xs xs _ (by exact hA.below hb2) (by exact hB.below hb2) HX.out HX.out hn hn).mono ?_
  rintro e w1 ⟨rfl, k, rfl⟩
  rw [HI.out]
  go_wp2
  go_ret
  exact ⟨rfl, below_draws hb2 k⟩

set_option maxHeartbeats 400000 in
theorem markNight_any (A : Option Addr) (n c lo hi : Nat) (xs : List Value) (s u q : Int) (w : World) (hf : Fresh w lo hi 3 A xs) (hx : xs.length = n) (h0 : 0 ≤ q) (h1 : q ≤ 4611686018427387904) (hn : n ≤ 1048576) :
    Calls Tryd.prog 47 #[.agg #[.slice A n c, .int .i64 s, .int .i64 u], .int .i64 q] w fun e w' => e = .returned (.int .i64 (q + n)) ∧ Span lo hi w w' ∧ Fresh w' lo hi 3 A (nums (marksI q n)) := by
  have HX := Lib.hid hx
  clear hx
  go_enter Tryd.func47, Tryd.ntmps47
  go_wp2_with fail
  refine (markIntS_any A n c lo hi xs q _ (hf.alloc _) HX.out h0 h1 hn).mono ?_
  rintro e w1 ⟨rfl, hs, hf1⟩
  go_wp2
  go_ret
  exact ⟨rfl, (Span.of_below (below1 w _) lo hi).trans hs, hf1⟩

end Go.Proofs.YtedkanncdkofaaaDoor

namespace Go.Proofs.YtedkanncdkofaaaDoor
open Go.RowKit

/-- A night, told in plain words: up to six people with times up to 1000, up to three seats, one torch or two. -/
def isNight (xs : List Int) (s t : Int) : Bool := within xs.length 1 6 && (allIn xs 1 1000 && (within s 1 3 && within t 1 2))
structure NightOk (xs : List Int) (s t : Int) : Prop where
  one : 1 ≤ xs.length
  six : xs.length ≤ 6
  times : ∀ y ∈ xs, 1 ≤ y ∧ y ≤ 1000
  seats : 1 ≤ s ∧ s ≤ 3
  torches : 1 ≤ t ∧ t ≤ 2
theorem isNight_ok {xs : List Int} {s t : Int} (h : isNight xs s t = true) : NightOk xs s t := by
  simp only [isNight, Bool.and_eq_true, within_iff, allIn_iff] at h
  obtain ⟨⟨h1, h2⟩, h3, ⟨h4, h5⟩, h6, h7⟩ := h
  exact ⟨by omega, by omega, h3, ⟨h4, h5⟩, h6, h7⟩
theorem isNight_of {xs : List Int} {s t : Int} (h : NightOk xs s t) : isNight xs s t = true := by
  have h1 := h.one
  have h2 := h.six
  simp only [isNight, Bool.and_eq_true, within_iff, allIn_iff]
  exact ⟨⟨by omega, by omega⟩, h.times, h.seats, h.torches⟩
theorem night_party {xs : List Int} {s t : Int} (h : NightOk xs s t) : isParty xs s = true := by
  have h1 := h.one
  have h2 := h.six
  simp only [isParty, Bool.and_eq_true, within_iff, allIn_iff]
  exact ⟨⟨by omega, by omega⟩, h.times, h.seats⟩
theorem isNight_party {xs : List Int} {s t : Int} (h : isParty xs s = false) : isNight xs s t = false := by
  cases hn : isNight xs s t
  · rfl
  · rw [night_party (isNight_ok hn)] at h; cases h
theorem isNight_len {xs : List Int} {s t : Int} (h : 6 < xs.length) : isNight xs s t = false := by
  cases hn : isNight xs s t
  · rfl
  · have := (isNight_ok hn).six; omega
theorem isNight_torch {xs : List Int} {s t : Int} (h : t < 1 ∨ 2 < t) : isNight xs s t = false := by
  cases hn : isNight xs s t
  · rfl
  · have := (isNight_ok hn).torches; omega
theorem party_ok {xs : List Int} {s : Int} (h : isParty xs s = true) : (1 ≤ xs.length ∧ xs.length ≤ 8) ∧ (∀ y ∈ xs, 1 ≤ y ∧ y ≤ 1000) ∧ 1 ≤ s ∧ s ≤ 3 := by
  simp only [isParty, Bool.and_eq_true, within_iff, allIn_iff] at h
  obtain ⟨⟨h1, h2⟩, h3, h4⟩ := h
  exact ⟨⟨by omega, by omega⟩, h3, h4⟩
theorem isNight_yes {xs : List Int} {s t : Int} (h : isParty xs s = true) (h6 : xs.length ≤ 6) (h1 : 1 ≤ t) (h2 : t ≤ 2) : isNight xs s t = true := by
  obtain ⟨h3, h4, h5⟩ := party_ok h
  exact isNight_of ⟨h3.1, h6, h4, h5, h1, h2⟩
/-- A camp of a night. -/
def isCamp (xs : List Int) (s t : Int) (m : Nat) (u : Int) : Bool := isNight xs s t && (decide (m = xs.length) && within u 0 t)

set_option maxHeartbeats 800000 in
theorem toGood_any (A : Option Addr) (n c : Nat) (xs : List Int) (s t : Int) (w : World) (hA : Holds w A (nums xs)) (hx : xs.length = n) (hn : n ≤ 9223372036854775807) :
    Calls Tryd.prog 94 #[.agg #[.slice A n c, .int .i64 s, .int .i64 t]] w fun e w' => e = .returned (.bool (isNight xs s t)) ∧ Below w.heap.size w w' := by
  subst hx
  have hB := hA.alloc (.cells #[.slice A xs.length c, .int .i64 s, .int .i64 t] 64)
  cases h1 : within xs.length 1 6
  · have HP : Hid (isNight xs s t = false) := by show _ = _; simp [isNight, h1]
    have H1 := Lib.hid h1
    clear h1
    go_enter Tryd.func94, Tryd.ntmps94
    go_wp2_with fail
    refine (l1In_any _ _ _ _).mono ?_
    rintro e w' ⟨rfl, rfl⟩
    rw [H1.out]
    go_wp2
    go_ret
    exact ⟨ret_of (by rw [HP.out]; rfl), below1 w _⟩
  · have H1 := Lib.hid h1
    cases h2 : allIn xs 1 1000
    · have HP : Hid (isNight xs s t = false) := by show _ = _; simp [isNight, h2]
      have H2 := Lib.hid h2
      clear h1 h2
      go_enter Tryd.func94, Tryd.ntmps94
      go_wp2_with fail
      refine (l1In_any _ _ _ _).mono ?_
      rintro e w' ⟨rfl, rfl⟩
      rw [H1.out]
      go_wp2_with fail
      refine (l1All_any _ _ _ xs _ _ _ hB rfl hn).mono ?_
      rintro e w' ⟨rfl, rfl⟩
      rw [H2.out]
      go_wp2
      go_ret
      exact ⟨ret_of (by rw [HP.out]; rfl), below1 w _⟩
    · have H2 := Lib.hid h2
      cases h3 : within s 1 3
      · have HP : Hid (isNight xs s t = false) := by show _ = _; simp [isNight, h3]
        have H3 := Lib.hid h3
        clear h1 h2 h3
        go_enter Tryd.func94, Tryd.ntmps94
        go_wp2_with fail
        refine (l1In_any _ _ _ _).mono ?_
        rintro e w' ⟨rfl, rfl⟩
        rw [H1.out]
        go_wp2_with fail
        refine (l1All_any _ _ _ xs _ _ _ hB rfl hn).mono ?_
        rintro e w' ⟨rfl, rfl⟩
        rw [H2.out]
        go_wp2_with fail
        refine (l1In_any _ _ _ _).mono ?_
        rintro e w' ⟨rfl, rfl⟩
        rw [H3.out]
        go_wp2
        go_ret
        exact ⟨ret_of (by rw [HP.out]; rfl), below1 w _⟩
      · have HP : Hid (isNight xs s t = within t 1 2) := by show _ = _; simp [isNight, h1, h2, h3]
        have H3 := Lib.hid h3
        clear h1 h2 h3
        go_enter Tryd.func94, Tryd.ntmps94
        go_wp2_with fail
        refine (l1In_any _ _ _ _).mono ?_
        rintro e w' ⟨rfl, rfl⟩
        rw [H1.out]
        go_wp2_with fail
        refine (l1All_any _ _ _ xs _ _ _ hB rfl hn).mono ?_
        rintro e w' ⟨rfl, rfl⟩
        rw [H2.out]
        go_wp2_with fail
        refine (l1In_any _ _ _ _).mono ?_
        rintro e w' ⟨rfl, rfl⟩
        rw [H3.out]
        go_wp2_with fail
        refine (l1In_any _ _ _ _).mono ?_
        rintro e w' ⟨rfl, rfl⟩
        go_wp2
        go_ret
        exact ⟨ret_of (by rw [HP.out]; rfl), below1 w _⟩

set_option maxHeartbeats 800000 in
theorem implIsNight_any (A : Option Addr) (n c : Nat) (xs : List Int) (s t : Int) (w : World) (hA : Holds w A (nums xs)) (hx : xs.length = n) (hn : n ≤ 9223372036854775807) :
    Calls Tryd.prog 96 #[.agg #[.slice A n c, .int .i64 s, .int .i64 t]] w fun e w' => e = .returned (.bool (isNight xs s t)) ∧ Below w.heap.size w w' := by
  subst hx
  have hB := hA.alloc (.cells #[.slice A xs.length c, .int .i64 s, .int .i64 t] 64)
  have h0 := Whole.fresh w 64 #[.slice A xs.length c, .int .i64 s, .int .i64 t]
  have H : ∀ b : Bool, isNight xs s t = b → isParty xs s = false ∨ isParty xs s = true ∧ (6 < xs.length ∨ xs.length ≤ 6 ∧ (t < 1 ∨ 1 ≤ t ∧ (2 < t ∨ t ≤ 2))) := by
    intro b _
    cases isParty xs s
    · exact .inl rfl
    · exact .inr ⟨rfl, by omega⟩
  rcases H _ rfl with hp | ⟨hp, h6 | ⟨h6, h1 | ⟨h1, h2 | h2⟩⟩⟩
  · have HP := Lib.hid (isNight_party (t := t) hp)
    have HPP := Lib.hid hp
    clear hp H
    go_enter Tryd.func96, Tryd.ntmps96
    go_wp2_with fail
    refine (isParty_any A _ c xs s _ (by with_reducible first | exact hB | exact hB.alloc _ | exact hB.drew) rfl hn).mono ?_
    rintro e w1 ⟨rfl, hb1⟩
    rw [HPP.out]
    have hb := below_then (below1 w _) hb1 (by simp)
    obtain ⟨c0, c1, c2⟩ := (h0.below hb1).cells3
    clear h0 hb1 hB
    go_wp2
    go_ret
    exact ⟨ret_of (by rw [HP.out]; first | rfl | (simp; done) | (simp; omega)), hb⟩
  · have HP := Lib.hid (isNight_len (s := s) (t := t) h6)
    have HPP := Lib.hid hp
    clear hp H
    go_enter Tryd.func96, Tryd.ntmps96
    go_wp2_with fail
    refine (isParty_any A _ c xs s _ (by with_reducible first | exact hB | exact hB.alloc _ | exact hB.drew) rfl hn).mono ?_
    rintro e w1 ⟨rfl, hb1⟩
    rw [HPP.out]
    have hb := below_then (below1 w _) hb1 (by simp)
    obtain ⟨c0, c1, c2⟩ := (h0.below hb1).cells3
    clear h0 hb1 hB
    go_wp2
    go_ret
    exact ⟨ret_of (by rw [HP.out]; first | rfl | (simp; done) | (simp; omega)), hb⟩
  · have HP := Lib.hid (isNight_torch (xs := xs) (s := s) (.inl h1))
    have HPP := Lib.hid hp
    clear hp H
    go_enter Tryd.func96, Tryd.ntmps96
    go_wp2_with fail
    refine (isParty_any A _ c xs s _ (by with_reducible first | exact hB | exact hB.alloc _ | exact hB.drew) rfl hn).mono ?_
    rintro e w1 ⟨rfl, hb1⟩
    rw [HPP.out]
    have hb := below_then (below1 w _) hb1 (by simp)
    obtain ⟨c0, c1, c2⟩ := (h0.below hb1).cells3
    clear h0 hb1 hB
    go_wp2
    go_ret
    exact ⟨ret_of (by rw [HP.out]; first | rfl | (simp; done) | (simp; omega)), hb⟩
  · have HP := Lib.hid (isNight_torch (xs := xs) (s := s) (.inr h2))
    have HPP := Lib.hid hp
    clear hp H
    go_enter Tryd.func96, Tryd.ntmps96
    go_wp2_with fail
    refine (isParty_any A _ c xs s _ (by with_reducible first | exact hB | exact hB.alloc _ | exact hB.drew) rfl hn).mono ?_
    rintro e w1 ⟨rfl, hb1⟩
    rw [HPP.out]
    have hb := below_then (below1 w _) hb1 (by simp)
    obtain ⟨c0, c1, c2⟩ := (h0.below hb1).cells3
    clear h0 hb1 hB
    go_wp2
    go_ret
    exact ⟨ret_of (by rw [HP.out]; first | rfl | (simp; done) | (simp; omega)), hb⟩
  · have HP := Lib.hid (isNight_yes hp h6 h1 h2)
    have HPP := Lib.hid hp
    clear hp H
    go_enter Tryd.func96, Tryd.ntmps96
    go_wp2_with fail
    refine (isParty_any A _ c xs s _ (by with_reducible first | exact hB | exact hB.alloc _ | exact hB.drew) rfl hn).mono ?_
    rintro e w1 ⟨rfl, hb1⟩
    rw [HPP.out]
    have hb := below_then (below1 w _) hb1 (by simp)
    obtain ⟨c0, c1, c2⟩ := (h0.below hb1).cells3
    clear h0 hb1 hB
    go_wp2
    go_ret
    exact ⟨ret_of (by rw [HP.out]; first | rfl | (simp; done) | (simp; omega)), hb⟩

end Go.Proofs.YtedkanncdkofaaaDoor

namespace Go.Proofs.YtedkanncdkofaaaDoor
open Go.RowKit

/-- What NightText tells. -/
def nightTextOf (xs : List Int) (s t : Int) : List UInt8 := if isNight xs s t then nightText xs s t else []
theorem isNight_times {xs : List Int} {s t : Int} (h : isNight xs s t = true) : xs.length ≤ 8 ∧ (0 ≤ s ∧ s < 1000000) ∧ (∀ x ∈ xs, 0 ≤ x ∧ x < 1000000) ∧ (0 ≤ t ∧ t < 1000000) ∧ isParty xs s = true := by
  simp only [isNight, within, allIn, Bool.and_eq_true, decide_eq_true_eq, List.all_eq_true] at h
  obtain ⟨h1, h2, h3, h4⟩ := h
  refine ⟨by omega, by omega, fun x hx => by have := h2 x hx; omega, by omega, ?_⟩
  simp only [isParty, within, allIn, Bool.and_eq_true, decide_eq_true_eq, List.all_eq_true]
  exact ⟨by omega, h2, h3⟩
theorem partyText_le {xs : List Int} {s : Int} (hx : xs.length ≤ 8) (hs : s < 1000000) (ht : ∀ x ∈ xs, x < 1000000) : (partyText xs s).length ≤ 100 := by
  rw [← shownUp_end xs s _ rfl]
  have := shownUp_le xs s xs.length hs ht
  omega

set_option maxHeartbeats 1600000 in
set_option maxRecDepth 100000 in
theorem toText_any (A : Option Addr) (n c : Nat) (xs : List Int) (s t : Int) (w : World) (hA : Holds w A (nums xs)) (hx : xs.length = n) (hp : isNight xs s t = true) :
    Calls Tryd.prog 95 #[.agg #[.slice A n c, .int .i64 s, .int .i64 t]] w (StrPost (nightText xs s t) w) := by
  obtain ⟨h8, hs, hxs, htt, -⟩ := isNight_times hp
  have hl6 := digs_le htt.2
  have hpl := partyText_le h8 hs.2 fun x hx => (hxs x hx).2
  have HX := Lib.hid hx
  have HXS := Lib.hid hxs
  have hA2 := hA.alloc (.cells #[.slice A n c, .int .i64 s, .int .i64 t] 64)
  have h0 := Whole.fresh w 64 #[.slice A n c, .int .i64 s, .int .i64 t]
  obtain ⟨c0, c1, c2⟩ := h0.cells3
  have ht := below1 w (.cells #[.slice A n c, .int .i64 s, .int .i64 t] 64)
  have hn8 : n ≤ 8 := by rw [← hx]; exact h8
  obtain ⟨M, hM⟩ : ∃ M, M = digs t ++ [42] := ⟨_, rfl⟩
  have hMl : M.length ≤ 7 := by rw [hM]; simp; omega
  have hcat1 := cat_to (digs t) [42] M hM (by omega) (by simp)
  obtain ⟨P, hP⟩ : ∃ P, P = partyText xs s := ⟨_, rfl⟩
  obtain ⟨R, hR⟩ : ∃ R, R = nightText xs s t := ⟨_, rfl⟩
  have hcat2 := cat_to M P R (by rw [hR, hM, hP]; rfl) (by omega) (by rw [hP]; omega)
  have HP := Lib.hid hP
  rw [← hR]
  clear hx hxs hp h8 hM hMl hP hR hpl hl6
  go_enter Tryd.func95, Tryd.ntmps95
  go_wp2_with fail
  go_region_held3 (fun w' => w'.cell? ⟨w.heap.size, 0, none⟩ = some (.slice A n c) ∧ w'.cell? ⟨w.heap.size, 1, none⟩ = some (.int .i64 s) ∧ w'.cell? ⟨w.heap.size, 2, none⟩ = some (.int .i64 t)) (go_keep)
    (first | (go_at_call 112; refine (l1Num_any t _ htt.1 htt.2).mono ?_; rintro e w1 ⟨rfl, hb1⟩; first | (have ht1 := below_then ht2 hb1 ht2.size; obtain ⟨k0, k1, k2⟩ := ((h0.drew.below hb2).below hb1).cells3) | (have ht1 := below_then ht.drew hb1 ht.size; obtain ⟨k0, k1, k2⟩ := (h0.drew.below hb1).cells3)) | (go_at_call 60; first | (refine (paShown_any A n c xs s _ (by exact hA2.drew.below hb1) HX.out hn8 hs HXS.out).mono ?_; rintro e w2 ⟨rfl, hb2⟩; rw [← HP.out]; have ht2 := below_then ht1 hb2 ht1.size; obtain ⟨l0, l1, l2⟩ := ((h0.drew.below hb1).below hb2).cells3) | (refine (paShown_any A n c xs s _ (by exact hA2.drew) HX.out hn8 hs HXS.out).mono ?_; rintro e w2 ⟨rfl, hb2⟩; rw [← HP.out]; have ht2 := below_then ht.drew hb2 ht.size; obtain ⟨l0, l1, l2⟩ := (h0.drew.below hb2).cells3)))
  go_wp2
  go_ret
  exact ⟨rfl, ht2⟩

set_option maxHeartbeats 1600000 in
set_option maxRecDepth 100000 in
theorem specNightText_any (A : Option Addr) (n c : Nat) (xs : List Int) (s t : Int) (w : World) (hA : Holds w A (nums xs)) (hx : xs.length = n) (hn : n ≤ 9223372036854775807) :
    Calls Tryd.prog 41 #[.agg #[.slice A n c, .int .i64 s, .int .i64 t]] w (TextPost (nightTextOf xs s t) (isNight xs s t) w) := by
  have HX := Lib.hid hx
  have hA2 := hA.alloc (.cells #[.slice A n c, .int .i64 s, .int .i64 t] 64)
  have h0 := Whole.fresh w 64 #[.slice A n c, .int .i64 s, .int .i64 t]
  obtain ⟨c0, c1, c2⟩ := h0.cells3
  have ht0 := below1 w (.cells #[.slice A n c, .int .i64 s, .int .i64 t] 64)
  clear hx
  go_enter Tryd.func41, Tryd.ntmps41
  go_wp2_with fail
  refine (toGood_any A n c xs s t _ hA2 HX.out hn).mono ?_
  rintro e w1 ⟨rfl, hb⟩
  have ht := below_then ht0 hb (by simp)
  replace h0 := h0.below hb
  replace hA2 := hA2.below hb
  clear hb ht0 c0 c1 c2
  obtain ⟨c0, c1, c2⟩ := h0.cells3
  cases hp : isNight xs s t
  · have HO := Lib.hid (show nightTextOf xs s t = [] by rw [nightTextOf, hp]; rfl)
    have HP := Lib.hid hp
    clear hp
    go_wp2
    go_ret2
    exact ⟨by rw [HO.out, HP.out]; rfl, ht⟩
  · have HO := Lib.hid (show nightTextOf xs s t = nightText xs s t by rw [nightTextOf, hp]; rfl)
    have HP := Lib.hid hp
    clear hp
    go_wp2_with fail
    refine (toText_any A n c xs s t _ hA2 HX.out HP.out).mono ?_
    rintro e w2 ⟨rfl, hb⟩
    replace ht := below_then ht hb ht.size
    clear hb c0 c1 c2
    go_wp2
    go_ret2
    exact ⟨by rw [HO.out, HP.out]; rfl, ht⟩

set_option maxHeartbeats 1600000 in
set_option maxRecDepth 100000 in
theorem implNightText_any (A : Option Addr) (n c : Nat) (xs : List Int) (s t : Int) (w : World) (hA : Holds w A (nums xs)) (hx : xs.length = n) (hn : n ≤ 9223372036854775807) (hT : Tab w) :
    Calls Tryd.prog 43 #[.agg #[.slice A n c, .int .i64 s, .int .i64 t]] w (TextPost (nightTextOf xs s t) (isNight xs s t) w) := by
  have HX := Lib.hid hx
  have hA2 := hA.alloc (.cells #[.slice A n c, .int .i64 s, .int .i64 t] 64)
  have h0 := Whole.fresh w 64 #[.slice A n c, .int .i64 s, .int .i64 t]
  obtain ⟨c0, c1, c2⟩ := h0.cells3
  have ht0 := below1 w (.cells #[.slice A n c, .int .i64 s, .int .i64 t] 64)
  clear hx
  go_enter Tryd.func43, Tryd.ntmps43
  go_wp2_with fail
  refine (implIsNight_any A n c xs s t _ hA2 HX.out hn).mono ?_
  rintro e w1 ⟨rfl, hb⟩
  have ht := below_then ht0 hb (by simp)
  replace h0 := h0.below hb
  replace hA2 := hA2.below hb
  clear hb ht0 c0 c1 c2
  obtain ⟨c0, c1, c2⟩ := h0.cells3
  cases hp : isNight xs s t
  · have HO := Lib.hid (show nightTextOf xs s t = [] by rw [nightTextOf, hp]; rfl)
    have HP := Lib.hid hp
    clear hp
    go_wp2
    go_ret2
    exact ⟨by rw [HO.out, HP.out]; rfl, ht⟩
  · have HO := Lib.hid (show nightTextOf xs s t = nightText xs s t by rw [nightTextOf, hp]; rfl)
    have HP := Lib.hid hp
    obtain ⟨h8, hs, hxs, htt, hpar⟩ := isNight_times hp
    have hl6 := digs_le htt.2
    have hpl := partyText_le h8 hs.2 fun x hx => (hxs x hx).2
    have HPT := Lib.hid (show partyTextOf xs s = partyText xs s by rw [partyTextOf, hpar]; rfl)
    have HPA := Lib.hid hpar
    clear hp hpar hxs
    go_wp2_with fail
    refine (implPartyText_any A n c xs s _ hA2 HX.out hn (hT.below ht)).mono ?_
    rintro e w2 ⟨rfl, hb⟩
    replace ht := below_then ht hb ht.size
    replace h0 := h0.below hb
    rw [HPT.out, HPA.out]
    clear hb c0 c1 c2 hA2
    obtain ⟨c0, c1, c2⟩ := h0.cells3
    go_wp2_with fail
    refine (itoa_any t _ (hT.below ht) htt.1 (by omega)).mono ?_
    rintro e w3 ⟨rfl, hb⟩
    replace ht := below_then ht hb ht.size
    clear hb c0 c1 c2 h0
    obtain ⟨M, hM⟩ : ∃ M, M = digs t ++ [42] := ⟨_, rfl⟩
    have hMl : M.length ≤ 7 := by rw [hM]; simp; omega
    have hcat1 := cat_to (digs t) [42] M hM (by omega) (by simp)
    obtain ⟨R, hR⟩ : ∃ R, R = nightText xs s t := ⟨_, rfl⟩
    have hcat2 := cat_to M (partyText xs s) R (by rw [hR, hM]; rfl) (by omega) (by omega)
    rw [← hR] at HO
    clear hM hR
    go_wp2
    go_ret2
    exact ⟨by rw [HO.out, HP.out]; rfl, ht⟩
end Go.Proofs.YtedkanncdkofaaaDoor

namespace Go.Proofs.YtedkanncdkofaaaDoor

theorem joinTail_cons (sep p : List UInt8) (r : List (List UInt8)) : Lib.joinTail sep (p :: r) = sep ++ p ++ Lib.joinTail sep r := by simp [Lib.joinTail]
/-- What was cut, put together again. -/
theorem join_pieces (c : UInt8) : ∀ l : List UInt8, Lib.join (pieces c l) [c] = l := by
  intro l
  induction l with
  | nil => simp [pieces, Lib.join_one]
  | cons x r ih =>
    unfold pieces
    split
    · rename_i hx
      match hq : pieces c r, pieces_ne c r with
      | q :: qs, _ =>
        rw [hq] at ih
        rw [Lib.join_cons, joinTail_cons]
        rw [Lib.join_cons] at ih
        rw [List.nil_append, hx, List.append_assoc, ih]
        rfl
    · split
      · rename_i hq
        exact absurd hq (pieces_ne c r)
      · rename_i q qs hq
        rw [hq, Lib.join_cons] at ih
        rw [Lib.join_cons, List.cons_append, ih]
theorem digs_read {p : List UInt8} (h : 0 ≤ readL p) : digs (readL p) = p := ((numL_some (num_of_read h).1).2.1).symm

/-- The night that the program reads. -/
def nightI (s : List UInt8) : Option (List Int × Int × Int) :=
  match numL (Lib.cut s [42]).1, partyI (Lib.cut s [42]).2.1 with
  | some t, some (xs, v) => if isNight xs v t then some (xs, v, t) else none
  | _, _ => none
/-- The night that the model reads. -/
def nightM (s : List UInt8) : Option (List Int × Int × Int) :=
  if s.length ≤ 60 ∧ (pieces 42 s).length = 2 ∧ (pieces 58 ((pieces 42 s).getD 1 [])).length = 2 then
    if isNight ((pieces 44 ((pieces 58 ((pieces 42 s).getD 1 [])).getD 1 [])).map readL) (readL ((pieces 58 ((pieces 42 s).getD 1 [])).getD 0 [])) (readL ((pieces 42 s).getD 0 []))
      ∧ nightText ((pieces 44 ((pieces 58 ((pieces 42 s).getD 1 [])).getD 1 [])).map readL) (readL ((pieces 58 ((pieces 42 s).getD 1 [])).getD 0 [])) (readL ((pieces 42 s).getD 0 [])) = s
    then some ((pieces 44 ((pieces 58 ((pieces 42 s).getD 1 [])).getD 1 [])).map readL, readL ((pieces 58 ((pieces 42 s).getD 1 [])).getD 0 []), readL ((pieces 42 s).getD 0 [])) else none
  else none
theorem isNight_parts {xs : List Int} {v t : Int} : isNight xs v t = true ↔ isParty xs v = true ∧ xs.length ≤ 6 ∧ 1 ≤ t ∧ t ≤ 2 := by
  rw [isParty_parts]
  simp only [isNight, within, allIn, Bool.and_eq_true, decide_eq_true_eq, List.all_eq_true]
  constructor
  · rintro ⟨h1, h2, h3, h4⟩
    exact ⟨⟨by omega, h2, h3⟩, by omega, by omega, by omega⟩
  · rintro ⟨⟨h1, h2, h3⟩, h4, h5, h6⟩
    exact ⟨by omega, h2, h3, by omega⟩
theorem party_no {r : List UInt8} (h : (42 : UInt8) ∈ r) : partyI r = none := by
  unfold partyI
  by_cases hc : (58 : UInt8) ∈ r
  · obtain ⟨p, q, rfl, hp⟩ := first_of hc
    rw [cut_at q hp]
    dsimp only
    rcases List.mem_append.1 h with h | h
    · rw [num_no h (by decide)]
    · have hq : (42 : UInt8) ∈ q := by
        rcases List.mem_cons.1 h with h | h
        · exact absurd h (by decide)
        · exact h
      have hw : wordsL 44 8 q = none := by
        unfold wordsL
        rw [if_neg (by rintro rfl; cases hq)]
        split
        · obtain ⟨y, hy, hdy⟩ := pieces_mem (c := 44) (by decide) hq
          exact allNum_no hy (num_no hdy (by decide))
        · rfl
      rw [hw]
      cases numL p <;> rfl
  · rw [cut_out hc]
    dsimp only
    rw [num_no h (by decide)]
/-- A party that is read is told by its text. -/
theorem party_told {p q : List UInt8} (h : isParty ((pieces 44 q).map readL) (readL p) = true) : partyText ((pieces 44 q).map readL) (readL p) = p ++ 58 :: q := by
  obtain ⟨-, h2, h3⟩ := isParty_parts.1 h
  unfold partyText
  rw [digs_read (by omega), List.map_map]
  have : (pieces 44 q).map (digs ∘ readL) = pieces 44 q := by
    refine (List.map_congr_left fun y hy => ?_).trans (List.map_id _)
    have := h2 (readL y) (List.mem_map.2 ⟨y, hy, rfl⟩)
    exact digs_read (by omega)
  rw [this, join_pieces]
  simp
theorem two_of {c : UInt8} {l : List UInt8} (h : (pieces c l).length = 2) : ∃ p q, pieces c l = [p, q] ∧ l = p ++ c :: q := by
  match hq : pieces c l, h with
  | [p, q], _ =>
    have := join_pieces c l
    rw [hq, Lib.join_cons, joinTail_cons] at this
    exact ⟨p, q, rfl, by rw [← this]; simp [Lib.joinTail]⟩
theorem night_same (s : List UInt8) : nightM s = nightI s := by
  by_cases hc : (42 : UInt8) ∈ s
  · obtain ⟨a, r, rfl, ha⟩ := first_of hc
    have hcut := cut_at r ha
    have hps := pieces_app r ha
    unfold nightI nightM
    rw [hcut, hps]
    dsimp only
    by_cases hr : (42 : UInt8) ∈ r
    · rw [party_no hr, if_neg]
      · cases numL a <;> rfl
      · rintro ⟨-, h, -⟩
        obtain ⟨b, u, rfl, hb⟩ := first_of hr
        rw [pieces_app u hb] at h
        have := List.length_pos_iff.2 (pieces_ne 42 u)
        simp only [List.length_cons] at h
        omega
    · rw [pieces_none hr]
      simp only [List.getD_cons_zero, List.getD_cons_succ, List.length_cons, List.length_nil]
      rw [← party_same r]
      unfold partyM
      by_cases h2 : (pieces 58 r).length = 2
      · obtain ⟨p, q, hpq, hrr⟩ := two_of h2
        rw [hpq]
        simp only [List.getD_cons_zero, List.getD_cons_succ, List.length_cons, List.length_nil]
        generalize hxs : (pieces 44 q).map readL = xs
        cases hN : isNight xs (readL p) (readL a)
        · rw [show (if (a ++ 42 :: r).length ≤ 60 ∧ True ∧ True then if false = true ∧ nightText xs (readL p) (readL a) = a ++ 42 :: r then some (xs, readL p, readL a) else none else none) = (none : Option (List Int × Int × Int)) by split <;> simp]
          symm
          split
          · rename_i t xs' v hn hp
            split at hp
            · split at hp
              · simp only [Option.some.injEq, Prod.mk.injEq] at hp
                obtain ⟨rfl, rfl⟩ := hp
                rw [if_neg]
                intro h
                have h4 := (isNight_parts.1 h).2.2
                rw [read_of_num hn (by omega), h] at hN
                cases hN
              · cases hp
            · cases hp
          · rfl
        · obtain ⟨hP, h6, ht⟩ := isNight_parts.1 hN
          have hra := num_of_read (l := a) (by omega)
          have htold : partyText xs (readL p) = r := by rw [← hxs] at hP ⊢; rw [party_told hP, hrr]
          have htext : nightText xs (readL p) (readL a) = a ++ 42 :: r := by
            unfold nightText
            rw [htold, digs_read (by omega)]
            simp
          obtain ⟨-, hx2, hs⟩ := isParty_parts.1 hP
          have hal : a.length ≤ 1 := read_len (k := 0) (by omega) (by omega)
          have hpl : p.length ≤ 1 := read_len (k := 0) (by omega) (by omega)
          have hql : q.length + 1 ≤ 30 := by
            rw [pieces_sum 44 q]
            have hlp : ∀ x ∈ (pieces 44 q).map (fun p => p.length + 1), x ≤ 5 := by
              intro x hx
              obtain ⟨y, hy, rfl⟩ := List.mem_map.1 hx
              have hb := hx2 _ (by rw [← hxs]; exact List.mem_map.2 ⟨y, hy, rfl⟩)
              have := read_len (p := y) (k := 3) (by omega) (by omega)
              omega
            have hs := sum_le hlp
            rw [List.length_map] at hs
            rw [← hxs, List.length_map] at h6
            omega
          have hrl : r.length ≤ 31 := by rw [hrr]; simp; omega
          rw [hra.1]
          rw [if_pos (by refine ⟨?_, trivial, trivial⟩; simp; omega), if_pos ⟨rfl, htext⟩, if_pos (⟨by omega, trivial⟩), if_pos hP]
          simp only [hN]
          rfl
      · rw [if_neg fun h => h2 h.2.2, if_neg fun h => h2 h.2]
        cases numL a <;> rfl
  · unfold nightI nightM
    rw [cut_out hc, pieces_none hc]
    dsimp only
    rw [if_neg (by simp)]
    have hp : partyI [] = none := by
      unfold partyI
      rw [cut_out (by simp)]
      dsimp only
      have : numL [] = none := by
        cases h : numL [] with
        | none => rfl
        | some v =>
          obtain ⟨-, hl, -⟩ := numL_some h
          obtain ⟨b, r, hb, -⟩ := digits_head v.toNat
          have := (numL_some h).1
          rw [show v = (v.toNat : Int) by omega, digs_nat, hb] at hl
          cases hl
      rw [this]
    rw [hp]
    cases numL s <;> rfl
end Go.Proofs.YtedkanncdkofaaaDoor

namespace Go.Proofs.YtedkanncdkofaaaDoor
open Go.RowKit

/-- What a call hands back that reads a night. -/
def NiPost (r : Option (List Int × Int × Int)) (w : World) (e : Ending) (w' : World) : Prop :=
  ∃ (A : Option Addr) (c : Nat), e = .returned (.tuple #[.agg #[.slice A ((r.map (·.1)).getD []).length c, .int .i64 ((r.map (·.2.1)).getD 0), .int .i64 ((r.map (·.2.2)).getD 0)], .bool r.isSome]) ∧ Fresh w' w.heap.size w'.heap.size 3 A (nums ((r.map (·.1)).getD [])) ∧ Below w.heap.size w w'
theorem NiPost.no {w w' : World} (h : Below w.heap.size w w') : NiPost none w (.returned (.tuple #[.agg #[.slice none 0 0, .int .i64 0, .int .i64 0], .bool false])) w' := ⟨none, 0, rfl, .inl rfl, h⟩

set_option maxHeartbeats 3200000 in
set_option maxRecDepth 100000 in
theorem implParseNight_any (s : List UInt8) (w : World) (hl : s.length ≤ 1048576) (hL : LibLay w) :
    Calls Tryd.prog 46 #[.string (strOf s)] w (NiPost (nightI s) w) := by
  obtain ⟨m, hmax⟩ := hL.max
  have hZ := Whole.fresh w 64 #[.slice none 0 0, .int .i64 0, .int .i64 0]
  have ht0 := below1 w (.cells #[.slice none 0 0, .int .i64 0, .int .i64 0] 64)
  have hmax2 : (w.alloc (.cells #[.slice none 0 0, .int .i64 0, .int .i64 0] 64)).cell? ⟨0, 0, none⟩ = some (.int .i64 m) := (ht0.cell (p := ⟨_, 0, none⟩) (Lib.lt_of_cell hmax)).trans hmax
  have HM := Lib.hid hmax2
  have hcl := cut_le s 42
  obtain ⟨a, r, fo, hcut⟩ : ∃ a r f, Lib.cut s [42] = (a, r, f) := ⟨_, _, _, rfl⟩
  rw [hcut] at hcl
  dsimp only at hcl
  have HCUT := Lib.hid hcut
  have HP : Hid (nightI s = match numL a, partyI r with | some t, some (xs, v) => if isNight xs v t then some (xs, v, t) else none | _, _ => none) := by
    show _ = _
    unfold nightI
    rw [hcut] <;> rfl
  have hlz := hZ.lt
  clear hmax hmax2 hcut
  go_enter Tryd.func46, Tryd.ntmps46
  go_wp2_with fail
  refine (Tryd.strings_Cut (strOf s) (strOf [42]) m _ (by rw [strOf_size]; omega) HM.out).mono ?_
  rintro e w1 ⟨rfl, nn, rfl⟩
  rw [strOf_list, strOf_list, HCUT.out]
  dsimp only
  have hb := below_drewN (w.alloc (.cells #[.slice none 0 0, .int .i64 0, .int .i64 0] 64)) nn
  generalize World.drewN (w.alloc (.cells #[.slice none 0 0, .int .i64 0, .int .i64 0] 64)) nn = w1 at hb ⊢
  have ht := below_then ht0 hb (by simp)
  replace hZ := hZ.below hb
  clear hb ht0
  go_wp2_with fail
  refine (number_any a _ (by omega) (hL.below ht)).mono ?_
  rintro e w2 ⟨rfl, hb⟩
  replace ht := below_then ht hb ht.size
  replace hZ := hZ.below hb
  clear hb
  cases hn : numL a with
  | none =>
    have HR := Lib.hid (show nightI s = none by simp [HP.out, hn])
    obtain ⟨z0, z1, z2⟩ := hZ.cells3
    have zf0 := hZ.open_ 0
    have zf1 := hZ.open_ 1
    have zf2 := hZ.open_ 2
    have hzl := hZ.lt
    clear hn
    have hZ3 : Whole (((w2.setCell ⟨w.heap.size, 0, none⟩ (.slice none 0 0)).setCell ⟨w.heap.size, 1, none⟩ (.int .i64 0)).setCell ⟨w.heap.size, 2, none⟩ (.int .i64 0)) w.heap.size 64 #[.slice none 0 0, .int .i64 0, .int .i64 0] := (((hZ.set_ 0 (.slice none 0 0)).set_ 1 (.int .i64 0)).set_ 2 (.int .i64 0))
    have ht3 := (below_set (o := 2) (u := .int .i64 0) (below_set (o := 1) (u := .int .i64 0) (below_set (o := 0) (u := .slice none 0 0) ht (Nat.le_refl _)) (Nat.le_refl _)) (Nat.le_refl _))
    obtain ⟨r0, r1, r2⟩ := hZ3.cells3
    go_wp2
    refine bodyPost_ret (v := .tuple #[.agg #[.slice none 0 0, .int .i64 0, .int .i64 0], .bool false]) (by simp [results, Tryd.results46, go_sem, r0, r1, r2]) rfl ?_
    rw [HR.out]
    exact NiPost.no ht3
  | some t =>
    go_wp2_with fail
    refine (implParseParty_any r _ (by omega) (hL.below ht)).mono ?_
    rintro e w3 ⟨G, z, rfl, hF, hb⟩
    have hwl := ht.size
    have hwl2 := hZ.lt
    replace ht := below_then ht hb ht.size
    replace hZ := hZ.below hb
    clear hb
    obtain ⟨xs, hxs⟩ : ∃ xs, xs = ((partyI r).map (·.1)).getD [] := ⟨_, rfl⟩
    obtain ⟨v, hv⟩ : ∃ v, v = ((partyI r).map (·.2)).getD 0 := ⟨_, rfl⟩
    rw [← hxs] at hF ⊢
    rw [← hv]
    have hP0 := Whole.fresh w3 28 #[.slice G xs.length z, .int .i64 v]
    have hN0 := Whole.fresh (w3.alloc (.cells #[.slice G xs.length z, .int .i64 v] 28)) 64 #[.slice G xs.length z, .int .i64 v, .int .i64 t]
    obtain ⟨p0, p1⟩ := hP0.cells2
    cases hok : (partyI r).isSome
    · have hpn : partyI r = none := by
        cases h : partyI r with
        | none => rfl
        | some y => rw [h] at hok; cases hok
      have HR := Lib.hid (show nightI s = none by rw [HP.out, hn, hpn])
      obtain ⟨z0, z1, z2⟩ := hZ.cells3
      have zf0 := hZ.open_ 0
      have zf1 := hZ.open_ 1
      have zf2 := hZ.open_ 2
      have hzl := hZ.lt
      clear hn hxs hv hok hF hN0 hP0 hpn
      have hZ3 : Whole (((((w3.setCell ⟨w.heap.size, 0, none⟩ (.slice none 0 0)).setCell ⟨w.heap.size, 1, none⟩ (.int .i64 0)).setCell ⟨w.heap.size, 2, none⟩ (.int .i64 0)).alloc (.cells #[.slice G xs.length z, .int .i64 v] 28)).alloc (.cells #[.slice G xs.length z, .int .i64 v, .int .i64 t] 64)) w.heap.size 64 #[.slice none 0 0, .int .i64 0, .int .i64 0] := (((((hZ.set_ 0 (.slice none 0 0)).set_ 1 (.int .i64 0)).set_ 2 (.int .i64 0)).alloc (.cells #[.slice G xs.length z, .int .i64 v] 28)).alloc (.cells #[.slice G xs.length z, .int .i64 v, .int .i64 t] 64))
      have ht3 := (((below_set (o := 2) (u := .int .i64 0) (below_set (o := 1) (u := .int .i64 0) (below_set (o := 0) (u := .slice none 0 0) ht (Nat.le_refl _)) (Nat.le_refl _)) (Nat.le_refl _)).alloc (below_set (o := 2) (u := .int .i64 0) (below_set (o := 1) (u := .int .i64 0) (below_set (o := 0) (u := .slice none 0 0) ht (Nat.le_refl _)) (Nat.le_refl _)) (Nat.le_refl _)).size (.cells #[.slice G xs.length z, .int .i64 v] 28)).alloc ((below_set (o := 2) (u := .int .i64 0) (below_set (o := 1) (u := .int .i64 0) (below_set (o := 0) (u := .slice none 0 0) ht (Nat.le_refl _)) (Nat.le_refl _)) (Nat.le_refl _)).alloc (below_set (o := 2) (u := .int .i64 0) (below_set (o := 1) (u := .int .i64 0) (below_set (o := 0) (u := .slice none 0 0) ht (Nat.le_refl _)) (Nat.le_refl _)) (Nat.le_refl _)).size (.cells #[.slice G xs.length z, .int .i64 v] 28)).size (.cells #[.slice G xs.length z, .int .i64 v, .int .i64 t] 64))
      obtain ⟨r0, r1, r2⟩ := hZ3.cells3
      go_wp2
      refine bodyPost_ret (v := .tuple #[.agg #[.slice none 0 0, .int .i64 0, .int .i64 0], .bool false]) (by simp [results, Tryd.results46, go_sem, r0, r1, r2]) rfl ?_
      rw [HR.out]
      exact NiPost.no ht3
    · have hpi : partyI r = some (xs, v) := by
        obtain ⟨y, hy⟩ := Option.isSome_iff_exists.1 hok
        rw [hy] at hxs hv ⊢
        rw [hxs, hv]
        rfl
      have hx8 : xs.length ≤ 1048576 := by have := pXs_le r; rw [pXs, ← hxs] at this; exact this
      have HR := Lib.hid (show nightI s = if isNight xs v t then some (xs, v, t) else none by rw [HP.out, hn, hpi])
      have hF2 := (hF.alloc (.cells #[.slice G xs.length z, .int .i64 v] 28)).alloc (.cells #[.slice G xs.length z, .int .i64 v, .int .i64 t] 64)
      have hN3 := hN0
      have hZa := (hZ.alloc (.cells #[.slice G xs.length z, .int .i64 v] 28)).alloc (.cells #[.slice G xs.length z, .int .i64 v, .int .i64 t] 64)
      have hta := (ht.alloc ht.size (.cells #[.slice G xs.length z, .int .i64 v] 28)).alloc (ht.alloc ht.size (.cells #[.slice G xs.length z, .int .i64 v] 28)).size (.cells #[.slice G xs.length z, .int .i64 v, .int .i64 t] 64)
      have hz3 := hZ.lt
      obtain ⟨q0, q1, q2⟩ := hN0.cells3
      clear hn hxs hv hok hF hN0 hP0 hpi
      go_wp2_with fail
      refine (implIsNight_any G xs.length z xs v t _ hF2.holds rfl (by omega)).mono ?_
      rintro e w4 ⟨rfl, hb⟩
      have hsz4 : w3.heap.size ≤ w4.heap.size := by have := hb.size; simp at this; omega
      replace hZa := hZa.below hb
      have hN4 := hN3.below hb
      have hF4 := hF2.below hb
      have ht4 := below_then hta hb hta.size
      clear p0 p1 q0 q1 q2 hN3 hF2 hta hb hZ
      obtain ⟨q0, q1, q2⟩ := hN4.cells3
      rw [World.size_alloc] at q0 q1 q2
      have hZ := hZa
      obtain ⟨z0, z1, z2⟩ := hZ.cells3
      have zf0 := hZ.open_ 0
      have zf1 := hZ.open_ 1
      have zf2 := hZ.open_ 2
      cases hp : isNight xs v t
      · have HR2 := Lib.hid (show nightI s = none by rw [HR.out, hp]; rfl)
        clear hp HR
        have HR := HR2
        have hZ3 : Whole (((w4.setCell ⟨w.heap.size, 0, none⟩ (.slice none 0 0)).setCell ⟨w.heap.size, 1, none⟩ (.int .i64 0)).setCell ⟨w.heap.size, 2, none⟩ (.int .i64 0)) w.heap.size 64 #[.slice none 0 0, .int .i64 0, .int .i64 0] := (((hZ.set_ 0 (.slice none 0 0)).set_ 1 (.int .i64 0)).set_ 2 (.int .i64 0))
        have ht3 := (below_set (o := 2) (u := .int .i64 0) (below_set (o := 1) (u := .int .i64 0) (below_set (o := 0) (u := .slice none 0 0) ht4 (Nat.le_refl _)) (Nat.le_refl _)) (Nat.le_refl _))
        obtain ⟨r0, r1, r2⟩ := hZ3.cells3
        go_wp2
        refine bodyPost_ret (v := .tuple #[.agg #[.slice none 0 0, .int .i64 0, .int .i64 0], .bool false]) (by simp [results, Tryd.results46, go_sem, r0, r1, r2]) rfl ?_
        rw [HR.out]
        exact NiPost.no ht3
      · have HR2 := Lib.hid (show nightI s = some (xs, v, t) by rw [HR.out, hp]; rfl)
        clear hp HR
        have HR := HR2
        have hZ3 : Whole (((w4.setCell ⟨w.heap.size, 0, none⟩ (.slice G xs.length z)).setCell ⟨w.heap.size, 1, none⟩ (.int .i64 v)).setCell ⟨w.heap.size, 2, none⟩ (.int .i64 t)) w.heap.size 64 #[.slice G xs.length z, .int .i64 v, .int .i64 t] := (((hZ.set_ 0 (.slice G xs.length z)).set_ 1 (.int .i64 v)).set_ 2 (.int .i64 t))
        have ht5 := (below_set (o := 2) (u := .int .i64 t) (below_set (o := 1) (u := .int .i64 v) (below_set (o := 0) (u := .slice G xs.length z) ht4 (Nat.le_refl _)) (Nat.le_refl _)) (Nat.le_refl _))
        have hF5 := fresh_offQ (o := 2) (u := .int .i64 t) (fresh_offQ (o := 1) (u := .int .i64 v) (fresh_offQ (b := w.heap.size) (o := 0) (u := .slice G xs.length z) hF4 hwl2) hwl2) hwl2
        obtain ⟨r0, r1, r2⟩ := hZ3.cells3
        go_wp2
        refine bodyPost_ret (v := .tuple #[.agg #[.slice G xs.length z, .int .i64 v, .int .i64 t], .bool true]) (by simp [results, Tryd.results46, go_sem, r0, r1, r2]) rfl ?_
        rw [HR.out]
        exact ⟨G, z, rfl, hF5.more (by omega) (by simpa [World.setCell] using hsz4), ht5⟩
end Go.Proofs.YtedkanncdkofaaaDoor

namespace Go.Proofs.YtedkanncdkofaaaDoor
open Go.RowKit

/-- What a call hands back that tries to read a night. -/
def NiTry (r : Option (List Int × Int × Int)) (w : World) (e : Ending) (w' : World) : Prop :=
  ∃ (A : Option Addr) (c : Nat) (xs : List Int) (v t : Int), e = .returned (.tuple #[.agg #[.slice A xs.length c, .int .i64 v, .int .i64 t], .bool r.isSome]) ∧ Fresh w' w.heap.size w'.heap.size 3 A (nums xs) ∧ Below w.heap.size w w' ∧ ∀ y, r = some y → y = (xs, v, t)
theorem NiTry.no {r : Option (List Int × Int × Int)} {w w' : World} (hr : r = none) (h : Below w.heap.size w w') : NiTry r w (.returned (.tuple #[.agg #[.slice none 0 0, .int .i64 0, .int .i64 0], .bool false])) w' := by
  subst hr
  exact ⟨none, 0, [], 0, 0, rfl, .inl rfl, h, fun y h => by cases h⟩
/-- The night before its times are told. -/
def NiCut (w w2 : World) (g2 : Nat) (cs2 : Array Value) (v t : Int) (s6 : Value) (wx : World) : Prop :=
  ∃ g, s6 = .pointer (some ⟨g, 0, none⟩) ∧ Whole wx g 64 #[.slice none 0 0, .int .i64 v, .int .i64 t] ∧ Whole wx g2 9 cs2 ∧ Whole wx w.heap.size 64 #[.slice none 0 0, .int .i64 0, .int .i64 0] ∧ w2.heap.size ≤ g ∧ Below w.heap.size w wx

set_option linter.unusedSimpArgs false in
set_option linter.unusedVariables false in
set_option maxHeartbeats 6400000 in
set_option maxRecDepth 100000 in
theorem toParse_any (s : List UInt8) (w : World) (hl : s.length ≤ 1048576) :
    Calls Tryd.prog 97 #[.string (strOf s)] w (NiTry (nightM s) w) := by
  have hZ := Whole.fresh w 64 #[.slice none 0 0, .int .i64 0, .int .i64 0]
  have ht0 := below1 w (.cells #[.slice none 0 0, .int .i64 0, .int .i64 0] 64)
  have hpl := pieces_len_le 42 s
  have hlz := hZ.lt
  go_enter Tryd.func97, Tryd.ntmps97
  go_wp2_with fail
  refine (l1Split_any s 42 _ hl).mono ?_
  rintro e w1 ⟨G, z, rfl, hown, hb⟩
  have ht := below_then ht0 hb (by simp)
  replace hZ := hZ.below hb
  clear hb ht0
  by_cases hc : s.length ≤ 60 ∧ (pieces 42 s).length = 2
  · obtain ⟨h60, hp2⟩ := hc
    obtain ⟨a, r, har, -⟩ := two_of hp2
    have hal : a.length ≤ 1048576 := Nat.le_trans (piece_le (c := 42) (l := s) (by rw [har]; simp)) hl
    have hrl : r.length ≤ 60 := Nat.le_trans (piece_le (c := 42) (l := s) (by rw [har]; simp)) h60
    have HAR := Lib.hid har
    have HS60 := Lib.hid h60
    rw [har] at hown ⊢
    obtain ⟨g1, cs1, rfl, hg1, hw1, hcs1⟩ := own_blockQ hown (by simp)
    have c0 := hcs1 0 (by simp [strs])
    have c1 := hcs1 1 (by simp [strs])
    simp only [strs, List.map_cons, List.getElem_cons_zero, List.getElem_cons_succ] at c0 c1
    have HC1 := Lib.hid c0
    have e1 := (hw1.cell 1).trans c1
    have hs60 : ¬ ((s.length : Int) > 60) := by omega
    have hg1l := hw1.lt
    clear hown hcs1 hp2 har c0 c1
    go_wp2_with fail
    refine (l1Split_any r 58 _ (by omega)).mono ?_
    rintro e w2 ⟨G2, z2, rfl, hown, hb⟩
    replace ht := below_then ht hb ht.size
    replace hZ := hZ.below hb
    replace hw1 := hw1.below hb
    have hpl3 := pieces_len_le 58 r
    by_cases h2 : (pieces 58 r).length = 2
    · obtain ⟨p, q, hpq, -⟩ := two_of h2
      have HM : Hid (nightM s = if isNight ((pieces 44 q).map readL) (readL p) (readL a) ∧ nightText ((pieces 44 q).map readL) (readL p) (readL a) = s then some ((pieces 44 q).map readL, readL p, readL a) else none) := by
        show _ = _
        unfold nightM
        rw [HAR.out]
        simp only [List.getD_cons_zero, List.getD_cons_succ, hpq]
        rw [if_pos ⟨HS60.out, rfl, rfl⟩]
      have hpl2 : p.length ≤ 1048576 := Nat.le_trans (piece_le (c := 58) (l := r) (by rw [hpq]; simp)) (by omega)
      have hql : q.length ≤ 60 := Nat.le_trans (piece_le (c := 58) (l := r) (by rw [hpq]; simp)) hrl
      rw [hpq] at hown ⊢
      obtain ⟨g2, cs2, rfl, hg2, hw2, hcs2⟩ := own_blockQ hown (by simp)
      have c0 := hcs2 0 (by simp [strs])
      have c1 := hcs2 1 (by simp [strs])
      simp only [strs, List.map_cons, List.getElem_cons_zero, List.getElem_cons_succ] at c0 c1
      have HC2 := Lib.hid c0
      have HC3 := Lib.hid c1
      have E0 := (hw1.cell 0).trans HC1.out
      have F0 := (hw2.cell 0).trans HC2.out
      have hg2l := hw2.lt
      have hg1l2 := hw1.lt
      have hzw2 : w.heap.size < w2.heap.size := hZ.lt
      clear hown hcs2 h2 hpq c0 c1 hb e1 hpl3
      go_upto_region 7 with fail
      go_cut [6] (fun s6 wx => NiCut w w2 g2 cs2 (readL p) (readL a) s6 wx)
      case first =>
        go_wp2_with fail
        refine wp_region_held_drew (S := (fun w' => w'.cell? ⟨g1, 0, none⟩ = some (.string (strOf a)) ∧ w'.cell? ⟨g2, 0, none⟩ = some (.string (strOf p)))) (by kernel_rfl) (by exact ⟨E0, F0⟩) (fun hHeld => ?_)
        have hsz : w2.heap.size ≤ (World.drew w2).heap.size := Nat.le_refl _
        replace hw1 := hw1.drew
        replace hw2 := hw2.drew
        replace hZ := hZ.drew
        replace ht := ht.drew
        clear E0 F0
        generalize World.drew w2 = wd at hw1 hw2 hZ ht hsz hHeld ⊢
        have E0 := (hw1.cell 0).trans HC1.out
        have F0 := (hw2.cell 0).trans HC2.out
        refine wpAnyH_take (i := 0) (v := ?_) rfl (by kernel_rfl) (by kernel_rfl) (by kernel_rfl) (fun _ _ _ h => h) (Or.inl ⟨rfl, ?_⟩) hHeld ?_
        rotate_left
        · intro w' hS; obtain ⟨s0, s1⟩ := hS; go_simp <;> with_reducible rfl
        simp only [Act.put, List.getElem_toArray, List.getElem_cons_succ, List.getElem_cons_zero, List.setIfInBounds_toArray, List.set_cons_succ, List.set_cons_zero]
        refine wpAnyH_take (i := 1) (v := ?_) rfl (by kernel_rfl) (by kernel_rfl) (by kernel_rfl) (fun _ _ _ h => h) (Or.inl ⟨rfl, ?_⟩) hHeld ?_
        rotate_left
        · intro w' hS; obtain ⟨s0, s1⟩ := hS; go_simp <;> with_reducible rfl
        simp only [Act.put, List.getElem_toArray, List.getElem_cons_succ, List.getElem_cons_zero, List.setIfInBounds_toArray, List.set_cons_succ, List.set_cons_zero]
        refine wpAnyH_take (i := 2) (v := ?_) rfl (by kernel_rfl) (by kernel_rfl) (by kernel_rfl) (fun _ _ _ h => h) (Or.inl ⟨rfl, ?_⟩) hHeld ?_
        rotate_left
        · intro w' hS; obtain ⟨s0, s1⟩ := hS; go_simp <;> with_reducible rfl
        simp only [Act.put, List.getElem_toArray, List.getElem_cons_succ, List.getElem_cons_zero, List.setIfInBounds_toArray, List.set_cons_succ, List.set_cons_zero]
        refine wpAnyH_take (i := 4) (v := ?_) rfl (by kernel_rfl) (by kernel_rfl) (by kernel_rfl) (fun _ _ _ h => h) (Or.inl ⟨rfl, ?_⟩) hHeld ?_
        rotate_left
        · intro w' hS; obtain ⟨s0, s1⟩ := hS; go_simp <;> with_reducible rfl
        simp only [Act.put, List.getElem_toArray, List.getElem_cons_succ, List.getElem_cons_zero, List.setIfInBounds_toArray, List.set_cons_succ, List.set_cons_zero]
        refine wpAnyH_take (i := 5) (v := ?_) rfl (by kernel_rfl) (by kernel_rfl) (by kernel_rfl) (fun _ _ _ h => h) (Or.inl ⟨rfl, ?_⟩) hHeld ?_
        rotate_left
        · intro w' hS; obtain ⟨s0, s1⟩ := hS; go_simp <;> with_reducible rfl
        simp only [Act.put, List.getElem_toArray, List.getElem_cons_succ, List.getElem_cons_zero, List.setIfInBounds_toArray, List.set_cons_succ, List.set_cons_zero]
        refine wpAnyH_take (i := 6) (v := ?_) rfl (by kernel_rfl) (by kernel_rfl) (by kernel_rfl) (fun _ _ _ h => h) (Or.inl ⟨rfl, ?_⟩) hHeld ?_
        rotate_left
        · intro w' hS; obtain ⟨s0, s1⟩ := hS; go_simp <;> with_reducible rfl
        simp only [Act.put, List.getElem_toArray, List.getElem_cons_succ, List.getElem_cons_zero, List.setIfInBounds_toArray, List.set_cons_succ, List.set_cons_zero]
        refine wpAnyH_ready (rs := [3, 9]) (by kernel_rfl) (by simp) (AllReadyH.cons rfl (fun K hK => ?_) (AllReadyH.cons rfl (fun K hK => ?_) AllReadyH.nil))
        · go_simp
          refine (l1Read_any a _ hal).mono ?_
          rintro e w' ⟨rfl, rfl⟩
          refine hK.out _ _ ⟨E0, F0⟩ (fun hHeld => ?_)
          clear hK K
          try simp only [Act.put, List.getElem_toArray, List.getElem_cons_succ, List.getElem_cons_zero, List.setIfInBounds_toArray, List.set_cons_succ, List.set_cons_zero]
          refine wpAnyH_ready (rs := [7, 9]) (by kernel_rfl) (by simp) (AllReadyH.cons rfl (fun K hK => ?_) (AllReadyH.cons rfl (fun K hK => ?_) AllReadyH.nil))
          · go_simp
            refine (l1Read_any p _ hpl2).mono ?_
            rintro e w' ⟨rfl, rfl⟩
            refine hK.out _ _ ⟨E0, F0⟩ (fun hHeld => ?_)
            clear hK K
            try simp only [Act.put, List.getElem_toArray, List.getElem_cons_succ, List.getElem_cons_zero, List.setIfInBounds_toArray, List.set_cons_succ, List.set_cons_zero]
            refine wpAnyH_take (i := 8) (v := ?_) rfl (by kernel_rfl) (by kernel_rfl) (by kernel_rfl) (fun _ _ _ h => h) (Or.inl ⟨rfl, ?_⟩) hHeld ?_
            rotate_left
            · intro w' hS; obtain ⟨s0, s1⟩ := hS; go_simp <;> with_reducible rfl
            simp only [Act.put, List.getElem_toArray, List.getElem_cons_succ, List.getElem_cons_zero, List.setIfInBounds_toArray, List.set_cons_succ, List.set_cons_zero]
            refine wpAnyH_ready (rs := [9]) (by kernel_rfl) (by simp) (AllReadyH.cons rfl (fun K hK => ?_) AllReadyH.nil)
            go_simp
            have hB := Whole.fresh wd 64 #[.slice none 0 0, .int .i64 0, .int .i64 0]
            have hlz := hZ.lt
            have hl2 := hw2.lt
            obtain ⟨pb, hpb⟩ : ∃ g, g = wd.heap.size := ⟨_, rfl⟩
            rw [← hpb] at hB hlz hl2 hsz ⊢
            replace hw1 := hw1.alloc (.cells #[.slice none 0 0, .int .i64 0, .int .i64 0] 64)
            replace hw2 := hw2.alloc (.cells #[.slice none 0 0, .int .i64 0, .int .i64 0] 64)
            replace hZ := hZ.alloc (.cells #[.slice none 0 0, .int .i64 0, .int .i64 0] 64)
            replace ht := ht.alloc ht.size (.cells #[.slice none 0 0, .int .i64 0, .int .i64 0] 64)
            clear hpb
            generalize World.alloc wd (.cells #[.slice none 0 0, .int .i64 0, .int .i64 0] 64) = wd at hB hw1 hw2 hZ ht ⊢
            clear E0 F0
            have E0 := (hw1.cell 0).trans HC1.out
            have F0 := (hw2.cell 0).trans HC2.out
            refine hK.out _ _ ⟨E0, F0⟩ (fun hHeld => ?_)
            clear hK K
            try simp only [Act.put, List.getElem_toArray, List.getElem_cons_succ, List.getElem_cons_zero, List.setIfInBounds_toArray, List.set_cons_succ, List.set_cons_zero]
            refine wpAnyH_ready (rs := [10]) (by kernel_rfl) (by simp) (AllReadyH.cons rfl (fun K hK => ?_) AllReadyH.nil)
            obtain ⟨b0, b1, b2⟩ := hB.cells3
            have bf0 := hB.open_ 0
            have bf1 := hB.open_ 1
            have bf2 := hB.open_ 2
            have hBl := hB.lt
            go_simp
            clear b0 b1 b2 bf0 bf1 bf2
            have hB9 : Whole (((wd.setCell ⟨pb, 0, none⟩ (.slice none 0 0)).setCell ⟨pb, 1, none⟩ (.int .i64 (readL p))).setCell ⟨pb, 2, none⟩ (.int .i64 (readL a))) pb 64 #[.slice none 0 0, .int .i64 (readL p), .int .i64 (readL a)] := (((hB.set_ 0 (.slice none 0 0)).set_ 1 (.int .i64 (readL p))).set_ 2 (.int .i64 (readL a)))
            have hw19 := ((hw1.off (b := pb) (o := 0) (u := .slice none 0 0) (by omega)).off (b := pb) (o := 1) (u := .int .i64 (readL p)) (by omega)).off (b := pb) (o := 2) (u := .int .i64 (readL a)) (by omega)
            have hw29 := ((hw2.off (b := pb) (o := 0) (u := .slice none 0 0) (by omega)).off (b := pb) (o := 1) (u := .int .i64 (readL p)) (by omega)).off (b := pb) (o := 2) (u := .int .i64 (readL a)) (by omega)
            have hZ9 := ((hZ.off (b := pb) (o := 0) (u := .slice none 0 0) (by omega)).off (b := pb) (o := 1) (u := .int .i64 (readL p)) (by omega)).off (b := pb) (o := 2) (u := .int .i64 (readL a)) (by omega)
            have ht9 := below_set (b := pb) (o := 2) (u := .int .i64 (readL a)) (below_set (b := pb) (o := 1) (u := .int .i64 (readL p)) (below_set (b := pb) (o := 0) (u := .slice none 0 0) ht (by omega)) (by omega)) (by omega)
            refine hK.out _ _ ⟨(hw19.cell 0).trans HC1.out, (hw29.cell 0).trans HC2.out⟩ (fun hHeld => ?_)
            clear hK K
            try simp only [Act.put, List.getElem_toArray, List.getElem_cons_succ, List.getElem_cons_zero, List.setIfInBounds_toArray, List.set_cons_succ, List.set_cons_zero]
            refine wpAnyH_done (by kernel_rfl) ?_ _
            clear hHeld
            go_wp2_with fail
            go_meet
            exact ⟨pb, rfl, hB9, hw29, hZ9, by omega, ht9⟩
          · go_simp
            have hB := Whole.fresh wd 64 #[.slice none 0 0, .int .i64 0, .int .i64 0]
            have hlz := hZ.lt
            have hl2 := hw2.lt
            obtain ⟨pb, hpb⟩ : ∃ g, g = wd.heap.size := ⟨_, rfl⟩
            rw [← hpb] at hB hlz hl2 hsz ⊢
            replace hw1 := hw1.alloc (.cells #[.slice none 0 0, .int .i64 0, .int .i64 0] 64)
            replace hw2 := hw2.alloc (.cells #[.slice none 0 0, .int .i64 0, .int .i64 0] 64)
            replace hZ := hZ.alloc (.cells #[.slice none 0 0, .int .i64 0, .int .i64 0] 64)
            replace ht := ht.alloc ht.size (.cells #[.slice none 0 0, .int .i64 0, .int .i64 0] 64)
            clear hpb
            generalize World.alloc wd (.cells #[.slice none 0 0, .int .i64 0, .int .i64 0] 64) = wd at hB hw1 hw2 hZ ht ⊢
            clear E0 F0
            have E0 := (hw1.cell 0).trans HC1.out
            have F0 := (hw2.cell 0).trans HC2.out
            refine hK.out _ _ ⟨E0, F0⟩ (fun hHeld => ?_)
            clear hK K
            try simp only [Act.put, List.getElem_toArray, List.getElem_cons_succ, List.getElem_cons_zero, List.setIfInBounds_toArray, List.set_cons_succ, List.set_cons_zero]
            refine wpAnyH_ready (rs := [7]) (by kernel_rfl) (by simp) (AllReadyH.cons rfl (fun K hK => ?_) AllReadyH.nil)
            go_simp
            refine (l1Read_any p _ hpl2).mono ?_
            rintro e w' ⟨rfl, rfl⟩
            refine hK.out _ _ ⟨E0, F0⟩ (fun hHeld => ?_)
            clear hK K
            try simp only [Act.put, List.getElem_toArray, List.getElem_cons_succ, List.getElem_cons_zero, List.setIfInBounds_toArray, List.set_cons_succ, List.set_cons_zero]
            refine wpAnyH_take (i := 8) (v := ?_) rfl (by kernel_rfl) (by kernel_rfl) (by kernel_rfl) (fun _ _ _ h => h) (Or.inl ⟨rfl, ?_⟩) hHeld ?_
            rotate_left
            · intro w' hS; obtain ⟨s0, s1⟩ := hS; go_simp <;> with_reducible rfl
            simp only [Act.put, List.getElem_toArray, List.getElem_cons_succ, List.getElem_cons_zero, List.setIfInBounds_toArray, List.set_cons_succ, List.set_cons_zero]
            refine wpAnyH_ready (rs := [10]) (by kernel_rfl) (by simp) (AllReadyH.cons rfl (fun K hK => ?_) AllReadyH.nil)
            obtain ⟨b0, b1, b2⟩ := hB.cells3
            have bf0 := hB.open_ 0
            have bf1 := hB.open_ 1
            have bf2 := hB.open_ 2
            have hBl := hB.lt
            go_simp
            clear b0 b1 b2 bf0 bf1 bf2
            have hB9 : Whole (((wd.setCell ⟨pb, 0, none⟩ (.slice none 0 0)).setCell ⟨pb, 1, none⟩ (.int .i64 (readL p))).setCell ⟨pb, 2, none⟩ (.int .i64 (readL a))) pb 64 #[.slice none 0 0, .int .i64 (readL p), .int .i64 (readL a)] := (((hB.set_ 0 (.slice none 0 0)).set_ 1 (.int .i64 (readL p))).set_ 2 (.int .i64 (readL a)))
            have hw19 := ((hw1.off (b := pb) (o := 0) (u := .slice none 0 0) (by omega)).off (b := pb) (o := 1) (u := .int .i64 (readL p)) (by omega)).off (b := pb) (o := 2) (u := .int .i64 (readL a)) (by omega)
            have hw29 := ((hw2.off (b := pb) (o := 0) (u := .slice none 0 0) (by omega)).off (b := pb) (o := 1) (u := .int .i64 (readL p)) (by omega)).off (b := pb) (o := 2) (u := .int .i64 (readL a)) (by omega)
            have hZ9 := ((hZ.off (b := pb) (o := 0) (u := .slice none 0 0) (by omega)).off (b := pb) (o := 1) (u := .int .i64 (readL p)) (by omega)).off (b := pb) (o := 2) (u := .int .i64 (readL a)) (by omega)
            have ht9 := below_set (b := pb) (o := 2) (u := .int .i64 (readL a)) (below_set (b := pb) (o := 1) (u := .int .i64 (readL p)) (below_set (b := pb) (o := 0) (u := .slice none 0 0) ht (by omega)) (by omega)) (by omega)
            refine hK.out _ _ ⟨(hw19.cell 0).trans HC1.out, (hw29.cell 0).trans HC2.out⟩ (fun hHeld => ?_)
            clear hK K
            try simp only [Act.put, List.getElem_toArray, List.getElem_cons_succ, List.getElem_cons_zero, List.setIfInBounds_toArray, List.set_cons_succ, List.set_cons_zero]
            refine wpAnyH_done (by kernel_rfl) ?_ _
            clear hHeld
            go_wp2_with fail
            go_meet
            exact ⟨pb, rfl, hB9, hw29, hZ9, by omega, ht9⟩
        · go_simp
          have hB := Whole.fresh wd 64 #[.slice none 0 0, .int .i64 0, .int .i64 0]
          have hlz := hZ.lt
          have hl2 := hw2.lt
          obtain ⟨pb, hpb⟩ : ∃ g, g = wd.heap.size := ⟨_, rfl⟩
          rw [← hpb] at hB hlz hl2 hsz ⊢
          replace hw1 := hw1.alloc (.cells #[.slice none 0 0, .int .i64 0, .int .i64 0] 64)
          replace hw2 := hw2.alloc (.cells #[.slice none 0 0, .int .i64 0, .int .i64 0] 64)
          replace hZ := hZ.alloc (.cells #[.slice none 0 0, .int .i64 0, .int .i64 0] 64)
          replace ht := ht.alloc ht.size (.cells #[.slice none 0 0, .int .i64 0, .int .i64 0] 64)
          clear hpb
          generalize World.alloc wd (.cells #[.slice none 0 0, .int .i64 0, .int .i64 0] 64) = wd at hB hw1 hw2 hZ ht ⊢
          clear E0 F0
          have E0 := (hw1.cell 0).trans HC1.out
          have F0 := (hw2.cell 0).trans HC2.out
          refine hK.out _ _ ⟨E0, F0⟩ (fun hHeld => ?_)
          clear hK K
          try simp only [Act.put, List.getElem_toArray, List.getElem_cons_succ, List.getElem_cons_zero, List.setIfInBounds_toArray, List.set_cons_succ, List.set_cons_zero]
          refine wpAnyH_ready (rs := [3]) (by kernel_rfl) (by simp) (AllReadyH.cons rfl (fun K hK => ?_) AllReadyH.nil)
          go_simp
          refine (l1Read_any a _ hal).mono ?_
          rintro e w' ⟨rfl, rfl⟩
          refine hK.out _ _ ⟨E0, F0⟩ (fun hHeld => ?_)
          clear hK K
          try simp only [Act.put, List.getElem_toArray, List.getElem_cons_succ, List.getElem_cons_zero, List.setIfInBounds_toArray, List.set_cons_succ, List.set_cons_zero]
          refine wpAnyH_ready (rs := [7]) (by kernel_rfl) (by simp) (AllReadyH.cons rfl (fun K hK => ?_) AllReadyH.nil)
          go_simp
          refine (l1Read_any p _ hpl2).mono ?_
          rintro e w' ⟨rfl, rfl⟩
          refine hK.out _ _ ⟨E0, F0⟩ (fun hHeld => ?_)
          clear hK K
          try simp only [Act.put, List.getElem_toArray, List.getElem_cons_succ, List.getElem_cons_zero, List.setIfInBounds_toArray, List.set_cons_succ, List.set_cons_zero]
          refine wpAnyH_take (i := 8) (v := ?_) rfl (by kernel_rfl) (by kernel_rfl) (by kernel_rfl) (fun _ _ _ h => h) (Or.inl ⟨rfl, ?_⟩) hHeld ?_
          rotate_left
          · intro w' hS; obtain ⟨s0, s1⟩ := hS; go_simp <;> with_reducible rfl
          simp only [Act.put, List.getElem_toArray, List.getElem_cons_succ, List.getElem_cons_zero, List.setIfInBounds_toArray, List.set_cons_succ, List.set_cons_zero]
          refine wpAnyH_ready (rs := [10]) (by kernel_rfl) (by simp) (AllReadyH.cons rfl (fun K hK => ?_) AllReadyH.nil)
          obtain ⟨b0, b1, b2⟩ := hB.cells3
          have bf0 := hB.open_ 0
          have bf1 := hB.open_ 1
          have bf2 := hB.open_ 2
          have hBl := hB.lt
          go_simp
          clear b0 b1 b2 bf0 bf1 bf2
          have hB9 : Whole (((wd.setCell ⟨pb, 0, none⟩ (.slice none 0 0)).setCell ⟨pb, 1, none⟩ (.int .i64 (readL p))).setCell ⟨pb, 2, none⟩ (.int .i64 (readL a))) pb 64 #[.slice none 0 0, .int .i64 (readL p), .int .i64 (readL a)] := (((hB.set_ 0 (.slice none 0 0)).set_ 1 (.int .i64 (readL p))).set_ 2 (.int .i64 (readL a)))
          have hw19 := ((hw1.off (b := pb) (o := 0) (u := .slice none 0 0) (by omega)).off (b := pb) (o := 1) (u := .int .i64 (readL p)) (by omega)).off (b := pb) (o := 2) (u := .int .i64 (readL a)) (by omega)
          have hw29 := ((hw2.off (b := pb) (o := 0) (u := .slice none 0 0) (by omega)).off (b := pb) (o := 1) (u := .int .i64 (readL p)) (by omega)).off (b := pb) (o := 2) (u := .int .i64 (readL a)) (by omega)
          have hZ9 := ((hZ.off (b := pb) (o := 0) (u := .slice none 0 0) (by omega)).off (b := pb) (o := 1) (u := .int .i64 (readL p)) (by omega)).off (b := pb) (o := 2) (u := .int .i64 (readL a)) (by omega)
          have ht9 := below_set (b := pb) (o := 2) (u := .int .i64 (readL a)) (below_set (b := pb) (o := 1) (u := .int .i64 (readL p)) (below_set (b := pb) (o := 0) (u := .slice none 0 0) ht (by omega)) (by omega)) (by omega)
          refine hK.out _ _ ⟨(hw19.cell 0).trans HC1.out, (hw29.cell 0).trans HC2.out⟩ (fun hHeld => ?_)
          clear hK K
          try simp only [Act.put, List.getElem_toArray, List.getElem_cons_succ, List.getElem_cons_zero, List.setIfInBounds_toArray, List.set_cons_succ, List.set_cons_zero]
          refine wpAnyH_done (by kernel_rfl) ?_ _
          clear hHeld
          go_wp2_with fail
          go_meet
          exact ⟨pb, rfl, hB9, hw29, hZ9, by omega, ht9⟩
      case rest =>
        obtain ⟨pb, rfl, hB, hw2, hZ, hpw, ht⟩ := hcut
        obtain ⟨v, hv⟩ : ∃ v, v = readL p := ⟨_, rfl⟩
        obtain ⟨t, htt⟩ : ∃ t, t = readL a := ⟨_, rfl⟩
        rw [← hv, ← htt] at hB HM
        have f1 := (hw2.cell 1).trans HC3.out
        clear hv htt E0 F0 hw1
        go_wp2_with fail
        refine (l1Split_any q 44 _ (by omega)).mono ?_
        rintro e w3 ⟨G3, z3, rfl, hown, hb⟩
        have hpl4 := pieces_len_le 44 q
        have hpos := List.length_pos_iff.2 (pieces_ne 44 q)
        have hfree : ∀ p ∈ pieces 44 q, p.length ≤ 1048576 := fun p hp => Nat.le_trans (piece_le hp) (by omega)
        generalize pieces 44 q = ps at hown hpl4 hpos hfree HM ⊢
        obtain ⟨g3, cs3, rfl, hg3, hw3, hcs3⟩ := own_blockQ hown hpos
        have hpbl := hB.lt
        replace ht := below_then ht hb ht.size
        replace hZ := hZ.below hb
        replace hB := hB.below hb
        have HF := Lib.hid hfree
        have HCS := Lib.hid hcs3
        have hrz : w.heap.size < pb := by omega
        have hpz : pb < w3.heap.size := hB.lt
        have hg3b : pb < g3 := by omega
        have hg3l := hw3.lt
        have hps61 : ps.length ≤ 61 := by omega
        obtain ⟨i0, hi, hz0, hz1, hz2⟩ := info_parts info_int
        have HI := Lib.hid hi
        have HZ0 := Lib.hid hz0
        have HZ1 := Lib.hid hz1
        have HZ2 := Lib.hid hz2
        clear hown hb hcs3 hfree hi hz0 hz1 hz2 f1 hw2 hpbl hg3
        go_wp2
        go_loopw [42] (fun i wr => ∃ (k : Nat) (T : Option Addr) (q : Nat), k ≤ ps.length ∧ i = .int .i64 k ∧ Whole wr pb 64 #[.slice T k q, .int .i64 v, .int .i64 t] ∧ wr.ownsRow w3.heap.size 3 1 (.slice T k q) k (nums ((ps.take k).map readL)) ∧ Whole wr g3 9 cs3 ∧ Whole wr w.heap.size 64 #[.slice none 0 0, .int .i64 0, .int .i64 0] ∧ Below w.heap.size w wr ∧ w3.heap.size ≤ wr.heap.size) (fun i _ => ps.length - (intOf i).toNat)
        case atStart => exact ⟨0, none, 0, Nat.zero_le _, rfl, hB, World.ownsRow_nil _ _ _ _, hw3, hZ, ht, Nat.le_refl _⟩
        case round =>
          obtain ⟨k, T, q3, hk, rfl, hB, hown, hw3, hZ, hb, hsz⟩ := hrel
          by_cases hlt : k < ps.length
          · have hcw := (hw3.cell k).trans (HCS.out k (by rw [strs_len]; exact hlt))
            simp only [strs, List.getElem_map] at hcw
            have hxl := HF.out ps[k] (List.getElem_mem hlt)
            have HT := Lib.hid (List.take_succ_eq_append_getElem hlt)
            generalize ps[k] = x at hcw hxl HT
            have HMAX := Lib.hid (show k + 1 ≤ maxLen by unfold maxLen; omega)
            have HBYT := Lib.hid (show (k + 1) * 8 ≤ 140737488355328 by omega)
            obtain ⟨b0, b1, b2⟩ := hB.cells3
            go_wp2_with fail
            refine wp_region_held_drew (S := (fun _ => True)) (by kernel_rfl) trivial (fun hHeld => ?_)
            replace hB := hB.drew
            replace hw3 := hw3.drew
            replace hZ := hZ.drew
            replace hb := hb.drew
            replace hown := own_belowQ hown (Below.refl _ _).drew
            replace hsz : w3.heap.size ≤ (World.drew wr).heap.size := hsz
            generalize World.drew wr = wd at hB hw3 hZ hb hown hsz hHeld ⊢
            clear b0 b1 b2 hcw
            refine wpAnyH_take (i := 0) (v := ?_) rfl (by kernel_rfl) (by kernel_rfl) (by kernel_rfl) (fun _ _ _ h => h) (Or.inl ⟨rfl, ?_⟩) hHeld ?_
            rotate_left
            · intro w' hS; skip; go_simp <;> with_reducible rfl
            simp only [Act.put, List.getElem_toArray, List.getElem_cons_succ, List.getElem_cons_zero, List.setIfInBounds_toArray, List.set_cons_succ, List.set_cons_zero]
            refine wpAnyH_take (i := 2) (v := ?_) rfl (by kernel_rfl) (by kernel_rfl) (by kernel_rfl) (fun _ _ _ h => h) (Or.inl ⟨rfl, ?_⟩) hHeld ?_
            rotate_left
            · intro w' hS; skip; go_simp <;> with_reducible rfl
            simp only [Act.put, List.getElem_toArray, List.getElem_cons_succ, List.getElem_cons_zero, List.setIfInBounds_toArray, List.set_cons_succ, List.set_cons_zero]
            refine wpAnyH_ready (rs := [1, 3]) (by kernel_rfl) (by simp) (AllReadyH.cons rfl (fun K hK => ?_) (AllReadyH.cons rfl (fun K hK => ?_) AllReadyH.nil))
            · obtain ⟨y0_, y1_, y2_⟩ := hB.cells3
              go_simp
              clear y0_ y1_ y2_
              refine hK.out _ _ trivial (fun hHeld => ?_)
              clear hK K
              try simp only [Act.put, List.getElem_toArray, List.getElem_cons_succ, List.getElem_cons_zero, List.setIfInBounds_toArray, List.set_cons_succ, List.set_cons_zero]
              refine wpAnyH_ready (rs := [3]) (by kernel_rfl) (by simp) (AllReadyH.cons rfl (fun K hK => ?_) AllReadyH.nil)
              go_simp
              refine (l1Read_any x _ hxl).mono ?_
              rintro e w' ⟨rfl, rfl⟩
              refine hK.out _ _ trivial (fun hHeld => ?_)
              clear hK K
              try simp only [Act.put, List.getElem_toArray, List.getElem_cons_succ, List.getElem_cons_zero, List.setIfInBounds_toArray, List.set_cons_succ, List.set_cons_zero]
              refine wpAnyH_ready (rs := [4]) (by kernel_rfl) (by simp) (AllReadyH.cons rfl (fun K hK => ?_) AllReadyH.nil)
              go_simp
              have hN := Whole.fresh wd 3 #[.int .i64 (readL x)]
              obtain ⟨gN, hgN⟩ : ∃ g, g = wd.heap.size := ⟨_, rfl⟩
              rw [← hgN] at hN ⊢
              clear hgN
              replace hown := hown.alloc (.cells #[.int .i64 (readL x)] 3)
              replace hB := hB.alloc (.cells #[.int .i64 (readL x)] 3)
              replace hw3 := hw3.alloc (.cells #[.int .i64 (readL x)] 3)
              replace hZ := hZ.alloc (.cells #[.int .i64 (readL x)] 3)
              replace hb := hb.alloc hb.size (.cells #[.int .i64 (readL x)] 3)
              replace hsz : w3.heap.size ≤ (World.alloc wd (.cells #[.int .i64 (readL x)] 3)).heap.size := by simp; omega
              generalize World.alloc wd (.cells #[.int .i64 (readL x)] 3) = wd4 at hN hown hB hw3 hZ hb hsz ⊢
              refine hK.out _ _ trivial (fun hHeld => ?_)
              clear hK K
              try simp only [Act.put, List.getElem_toArray, List.getElem_cons_succ, List.getElem_cons_zero, List.setIfInBounds_toArray, List.set_cons_succ, List.set_cons_zero]
              refine wpAnyH_ready (rs := [5]) (by kernel_rfl) (by simp) (AllReadyH.cons rfl (fun K hK => ?_) AllReadyH.nil)
              have HNW : Hid (∀ j u, ([.int .i64 (readL x)] : List Value)[j]? = some u → wd4.cell? ((⟨gN, 0, none⟩ : Addr).add j) = some u) := fun j u hu => by rw [Addr.add_lit, Nat.zero_add]; exact (hN.cell j).trans (by simpa using hu)
              refine step_append_mineQ rfl (.tmp 47) (.tmp 50) 22 rfl w3.heap.size 3 i0 (.int .i64 0) 1 8 Tryd.underlying22 HI.out HZ0.out HZ1.out HZ2.out rfl (by decide) (.slice T k q3) k (nums ((ps.take k).map readL)) (by simp [Act.eval]) (by exact hown) ⟨gN, 0, none⟩ 1 1 [.int .i64 (readL x)] (by simp [Act.eval]) rfl HNW.out (by simp [Value.oneCell']) HMAX.out HBYT.out hsz ?_
              intro v7 wd5 hown7 hgr7
              obtain ⟨D, y, rfl⟩ := own_shapeQ hown7
              have hrow : ∀ y, (.slice T k q3 : Value).ownBlock = some y → w3.heap.size ≤ y := fun y hy => (hown.lt y hy).1
              replace hb := hb.grown hgr7 hb.size (fun y hy => by have := hrow y hy; omega)
              replace hB := whole_apartQ hB hgr7 (fun e => absurd (hrow _ e.symm) (by omega))
              replace hw3 := whole_apartQ hw3 hgr7 (fun e => absurd (hrow _ e.symm) (by omega))
              replace hZ := whole_apartQ hZ hgr7 (fun e => absurd (hrow _ e.symm) (by omega))
              replace hsz : w3.heap.size ≤ wd5.heap.size := Nat.le_trans hsz hgr7.size
              rw [show nums ((ps.take k).map readL) ++ [.int .i64 (readL x)] = nums ((ps.take (k + 1)).map readL) by rw [HT.out]; simp [nums]] at hown7
              clear hown hrow hgr7 hN HNW
              refine hK.out _ _ trivial (fun hHeld => ?_)
              clear hK K
              try simp only [Act.put, List.getElem_toArray, List.getElem_cons_succ, List.getElem_cons_zero, List.setIfInBounds_toArray, List.set_cons_succ, List.set_cons_zero]
              refine wpAnyH_take (i := 6) (v := ?_) rfl (by kernel_rfl) (by kernel_rfl) (by kernel_rfl) (fun _ _ _ h => h) (Or.inl ⟨rfl, ?_⟩) hHeld ?_
              rotate_left
              · intro w' hS; skip; go_simp <;> with_reducible rfl
              simp only [Act.put, List.getElem_toArray, List.getElem_cons_succ, List.getElem_cons_zero, List.setIfInBounds_toArray, List.set_cons_succ, List.set_cons_zero]
              refine wpAnyH_ready (rs := [7]) (by kernel_rfl) (by simp) (AllReadyH.cons rfl (fun K hK => ?_) AllReadyH.nil)
              obtain ⟨e0, e1, e2⟩ := hB.cells3
              have hel := hB.lt
              have hop := hB.open_ 0
              go_simp
              clear e0 e1 e2 hel hop
              have hB9 : Whole (World.setCell wd5 ⟨pb, 0, none⟩ (.slice D (k + 1) y)) pb 64 #[(.slice D (k + 1) y), .int .i64 v, .int .i64 t] := hB.set_ 0 _
              have hw39 := hw3.off (b := pb) (o := 0) (u := (.slice D (k + 1) y)) (by omega)
              have hZ9 := hZ.off (b := pb) (o := 0) (u := (.slice D (k + 1) y)) (by omega)
              have hown9 := ownsRow_setCell_below (a := ⟨pb, 0, none⟩) hown7 (by show pb < w3.heap.size; omega) (.slice D (k + 1) y)
              have hb9 := below_set (b := pb) (o := 0) (u := (.slice D (k + 1) y)) hb (by omega)
              replace hsz : w3.heap.size ≤ (World.setCell wd5 ⟨pb, 0, none⟩ (.slice D (k + 1) y)).heap.size := by simpa [World.setCell] using hsz
              generalize World.setCell wd5 ⟨pb, 0, none⟩ (.slice D (k + 1) y) = wd9 at hB9 hw39 hZ9 hown9 hb9 hsz ⊢
              clear hB hw3 hZ hown7 hb
              refine hK.out _ _ trivial (fun hHeld => ?_)
              clear hK K
              try simp only [Act.put, List.getElem_toArray, List.getElem_cons_succ, List.getElem_cons_zero, List.setIfInBounds_toArray, List.set_cons_succ, List.set_cons_zero]
              refine wpAnyH_done (by kernel_rfl) ?_ _
              clear hHeld
              go_wp2_with fail
              go_roundw
              case rel => exact ⟨k + 1, D, y, by omega, by go_num, hB9, hown9, hw39, hZ9, hb9, hsz⟩
              case measure => simp [intOf]; omega
            · go_simp
              refine (l1Read_any x _ hxl).mono ?_
              rintro e w' ⟨rfl, rfl⟩
              refine hK.out _ _ trivial (fun hHeld => ?_)
              clear hK K
              try simp only [Act.put, List.getElem_toArray, List.getElem_cons_succ, List.getElem_cons_zero, List.setIfInBounds_toArray, List.set_cons_succ, List.set_cons_zero]
              refine wpAnyH_ready (rs := [1, 4]) (by kernel_rfl) (by simp) (AllReadyH.cons rfl (fun K hK => ?_) (AllReadyH.cons rfl (fun K hK => ?_) AllReadyH.nil))
              · obtain ⟨y0_, y1_, y2_⟩ := hB.cells3
                go_simp
                clear y0_ y1_ y2_
                refine hK.out _ _ trivial (fun hHeld => ?_)
                clear hK K
                try simp only [Act.put, List.getElem_toArray, List.getElem_cons_succ, List.getElem_cons_zero, List.setIfInBounds_toArray, List.set_cons_succ, List.set_cons_zero]
                refine wpAnyH_ready (rs := [4]) (by kernel_rfl) (by simp) (AllReadyH.cons rfl (fun K hK => ?_) AllReadyH.nil)
                go_simp
                have hN := Whole.fresh wd 3 #[.int .i64 (readL x)]
                obtain ⟨gN, hgN⟩ : ∃ g, g = wd.heap.size := ⟨_, rfl⟩
                rw [← hgN] at hN ⊢
                clear hgN
                replace hown := hown.alloc (.cells #[.int .i64 (readL x)] 3)
                replace hB := hB.alloc (.cells #[.int .i64 (readL x)] 3)
                replace hw3 := hw3.alloc (.cells #[.int .i64 (readL x)] 3)
                replace hZ := hZ.alloc (.cells #[.int .i64 (readL x)] 3)
                replace hb := hb.alloc hb.size (.cells #[.int .i64 (readL x)] 3)
                replace hsz : w3.heap.size ≤ (World.alloc wd (.cells #[.int .i64 (readL x)] 3)).heap.size := by simp; omega
                generalize World.alloc wd (.cells #[.int .i64 (readL x)] 3) = wd4 at hN hown hB hw3 hZ hb hsz ⊢
                refine hK.out _ _ trivial (fun hHeld => ?_)
                clear hK K
                try simp only [Act.put, List.getElem_toArray, List.getElem_cons_succ, List.getElem_cons_zero, List.setIfInBounds_toArray, List.set_cons_succ, List.set_cons_zero]
                refine wpAnyH_ready (rs := [5]) (by kernel_rfl) (by simp) (AllReadyH.cons rfl (fun K hK => ?_) AllReadyH.nil)
                have HNW : Hid (∀ j u, ([.int .i64 (readL x)] : List Value)[j]? = some u → wd4.cell? ((⟨gN, 0, none⟩ : Addr).add j) = some u) := fun j u hu => by rw [Addr.add_lit, Nat.zero_add]; exact (hN.cell j).trans (by simpa using hu)
                refine step_append_mineQ rfl (.tmp 47) (.tmp 50) 22 rfl w3.heap.size 3 i0 (.int .i64 0) 1 8 Tryd.underlying22 HI.out HZ0.out HZ1.out HZ2.out rfl (by decide) (.slice T k q3) k (nums ((ps.take k).map readL)) (by simp [Act.eval]) (by exact hown) ⟨gN, 0, none⟩ 1 1 [.int .i64 (readL x)] (by simp [Act.eval]) rfl HNW.out (by simp [Value.oneCell']) HMAX.out HBYT.out hsz ?_
                intro v7 wd5 hown7 hgr7
                obtain ⟨D, y, rfl⟩ := own_shapeQ hown7
                have hrow : ∀ y, (.slice T k q3 : Value).ownBlock = some y → w3.heap.size ≤ y := fun y hy => (hown.lt y hy).1
                replace hb := hb.grown hgr7 hb.size (fun y hy => by have := hrow y hy; omega)
                replace hB := whole_apartQ hB hgr7 (fun e => absurd (hrow _ e.symm) (by omega))
                replace hw3 := whole_apartQ hw3 hgr7 (fun e => absurd (hrow _ e.symm) (by omega))
                replace hZ := whole_apartQ hZ hgr7 (fun e => absurd (hrow _ e.symm) (by omega))
                replace hsz : w3.heap.size ≤ wd5.heap.size := Nat.le_trans hsz hgr7.size
                rw [show nums ((ps.take k).map readL) ++ [.int .i64 (readL x)] = nums ((ps.take (k + 1)).map readL) by rw [HT.out]; simp [nums]] at hown7
                clear hown hrow hgr7 hN HNW
                refine hK.out _ _ trivial (fun hHeld => ?_)
                clear hK K
                try simp only [Act.put, List.getElem_toArray, List.getElem_cons_succ, List.getElem_cons_zero, List.setIfInBounds_toArray, List.set_cons_succ, List.set_cons_zero]
                refine wpAnyH_take (i := 6) (v := ?_) rfl (by kernel_rfl) (by kernel_rfl) (by kernel_rfl) (fun _ _ _ h => h) (Or.inl ⟨rfl, ?_⟩) hHeld ?_
                rotate_left
                · intro w' hS; skip; go_simp <;> with_reducible rfl
                simp only [Act.put, List.getElem_toArray, List.getElem_cons_succ, List.getElem_cons_zero, List.setIfInBounds_toArray, List.set_cons_succ, List.set_cons_zero]
                refine wpAnyH_ready (rs := [7]) (by kernel_rfl) (by simp) (AllReadyH.cons rfl (fun K hK => ?_) AllReadyH.nil)
                obtain ⟨e0, e1, e2⟩ := hB.cells3
                have hel := hB.lt
                have hop := hB.open_ 0
                go_simp
                clear e0 e1 e2 hel hop
                have hB9 : Whole (World.setCell wd5 ⟨pb, 0, none⟩ (.slice D (k + 1) y)) pb 64 #[(.slice D (k + 1) y), .int .i64 v, .int .i64 t] := hB.set_ 0 _
                have hw39 := hw3.off (b := pb) (o := 0) (u := (.slice D (k + 1) y)) (by omega)
                have hZ9 := hZ.off (b := pb) (o := 0) (u := (.slice D (k + 1) y)) (by omega)
                have hown9 := ownsRow_setCell_below (a := ⟨pb, 0, none⟩) hown7 (by show pb < w3.heap.size; omega) (.slice D (k + 1) y)
                have hb9 := below_set (b := pb) (o := 0) (u := (.slice D (k + 1) y)) hb (by omega)
                replace hsz : w3.heap.size ≤ (World.setCell wd5 ⟨pb, 0, none⟩ (.slice D (k + 1) y)).heap.size := by simpa [World.setCell] using hsz
                generalize World.setCell wd5 ⟨pb, 0, none⟩ (.slice D (k + 1) y) = wd9 at hB9 hw39 hZ9 hown9 hb9 hsz ⊢
                clear hB hw3 hZ hown7 hb
                refine hK.out _ _ trivial (fun hHeld => ?_)
                clear hK K
                try simp only [Act.put, List.getElem_toArray, List.getElem_cons_succ, List.getElem_cons_zero, List.setIfInBounds_toArray, List.set_cons_succ, List.set_cons_zero]
                refine wpAnyH_done (by kernel_rfl) ?_ _
                clear hHeld
                go_wp2_with fail
                go_roundw
                case rel => exact ⟨k + 1, D, y, by omega, by go_num, hB9, hown9, hw39, hZ9, hb9, hsz⟩
                case measure => simp [intOf]; omega
              · go_simp
                have hN := Whole.fresh wd 3 #[.int .i64 (readL x)]
                obtain ⟨gN, hgN⟩ : ∃ g, g = wd.heap.size := ⟨_, rfl⟩
                rw [← hgN] at hN ⊢
                clear hgN
                replace hown := hown.alloc (.cells #[.int .i64 (readL x)] 3)
                replace hB := hB.alloc (.cells #[.int .i64 (readL x)] 3)
                replace hw3 := hw3.alloc (.cells #[.int .i64 (readL x)] 3)
                replace hZ := hZ.alloc (.cells #[.int .i64 (readL x)] 3)
                replace hb := hb.alloc hb.size (.cells #[.int .i64 (readL x)] 3)
                replace hsz : w3.heap.size ≤ (World.alloc wd (.cells #[.int .i64 (readL x)] 3)).heap.size := by simp; omega
                generalize World.alloc wd (.cells #[.int .i64 (readL x)] 3) = wd4 at hN hown hB hw3 hZ hb hsz ⊢
                refine hK.out _ _ trivial (fun hHeld => ?_)
                clear hK K
                try simp only [Act.put, List.getElem_toArray, List.getElem_cons_succ, List.getElem_cons_zero, List.setIfInBounds_toArray, List.set_cons_succ, List.set_cons_zero]
                refine wpAnyH_ready (rs := [1]) (by kernel_rfl) (by simp) (AllReadyH.cons rfl (fun K hK => ?_) AllReadyH.nil)
                obtain ⟨y0_, y1_, y2_⟩ := hB.cells3
                go_simp
                clear y0_ y1_ y2_
                refine hK.out _ _ trivial (fun hHeld => ?_)
                clear hK K
                try simp only [Act.put, List.getElem_toArray, List.getElem_cons_succ, List.getElem_cons_zero, List.setIfInBounds_toArray, List.set_cons_succ, List.set_cons_zero]
                refine wpAnyH_ready (rs := [5]) (by kernel_rfl) (by simp) (AllReadyH.cons rfl (fun K hK => ?_) AllReadyH.nil)
                have HNW : Hid (∀ j u, ([.int .i64 (readL x)] : List Value)[j]? = some u → wd4.cell? ((⟨gN, 0, none⟩ : Addr).add j) = some u) := fun j u hu => by rw [Addr.add_lit, Nat.zero_add]; exact (hN.cell j).trans (by simpa using hu)
                refine step_append_mineQ rfl (.tmp 47) (.tmp 50) 22 rfl w3.heap.size 3 i0 (.int .i64 0) 1 8 Tryd.underlying22 HI.out HZ0.out HZ1.out HZ2.out rfl (by decide) (.slice T k q3) k (nums ((ps.take k).map readL)) (by simp [Act.eval]) (by exact hown) ⟨gN, 0, none⟩ 1 1 [.int .i64 (readL x)] (by simp [Act.eval]) rfl HNW.out (by simp [Value.oneCell']) HMAX.out HBYT.out hsz ?_
                intro v7 wd5 hown7 hgr7
                obtain ⟨D, y, rfl⟩ := own_shapeQ hown7
                have hrow : ∀ y, (.slice T k q3 : Value).ownBlock = some y → w3.heap.size ≤ y := fun y hy => (hown.lt y hy).1
                replace hb := hb.grown hgr7 hb.size (fun y hy => by have := hrow y hy; omega)
                replace hB := whole_apartQ hB hgr7 (fun e => absurd (hrow _ e.symm) (by omega))
                replace hw3 := whole_apartQ hw3 hgr7 (fun e => absurd (hrow _ e.symm) (by omega))
                replace hZ := whole_apartQ hZ hgr7 (fun e => absurd (hrow _ e.symm) (by omega))
                replace hsz : w3.heap.size ≤ wd5.heap.size := Nat.le_trans hsz hgr7.size
                rw [show nums ((ps.take k).map readL) ++ [.int .i64 (readL x)] = nums ((ps.take (k + 1)).map readL) by rw [HT.out]; simp [nums]] at hown7
                clear hown hrow hgr7 hN HNW
                refine hK.out _ _ trivial (fun hHeld => ?_)
                clear hK K
                try simp only [Act.put, List.getElem_toArray, List.getElem_cons_succ, List.getElem_cons_zero, List.setIfInBounds_toArray, List.set_cons_succ, List.set_cons_zero]
                refine wpAnyH_take (i := 6) (v := ?_) rfl (by kernel_rfl) (by kernel_rfl) (by kernel_rfl) (fun _ _ _ h => h) (Or.inl ⟨rfl, ?_⟩) hHeld ?_
                rotate_left
                · intro w' hS; skip; go_simp <;> with_reducible rfl
                simp only [Act.put, List.getElem_toArray, List.getElem_cons_succ, List.getElem_cons_zero, List.setIfInBounds_toArray, List.set_cons_succ, List.set_cons_zero]
                refine wpAnyH_ready (rs := [7]) (by kernel_rfl) (by simp) (AllReadyH.cons rfl (fun K hK => ?_) AllReadyH.nil)
                obtain ⟨e0, e1, e2⟩ := hB.cells3
                have hel := hB.lt
                have hop := hB.open_ 0
                go_simp
                clear e0 e1 e2 hel hop
                have hB9 : Whole (World.setCell wd5 ⟨pb, 0, none⟩ (.slice D (k + 1) y)) pb 64 #[(.slice D (k + 1) y), .int .i64 v, .int .i64 t] := hB.set_ 0 _
                have hw39 := hw3.off (b := pb) (o := 0) (u := (.slice D (k + 1) y)) (by omega)
                have hZ9 := hZ.off (b := pb) (o := 0) (u := (.slice D (k + 1) y)) (by omega)
                have hown9 := ownsRow_setCell_below (a := ⟨pb, 0, none⟩) hown7 (by show pb < w3.heap.size; omega) (.slice D (k + 1) y)
                have hb9 := below_set (b := pb) (o := 0) (u := (.slice D (k + 1) y)) hb (by omega)
                replace hsz : w3.heap.size ≤ (World.setCell wd5 ⟨pb, 0, none⟩ (.slice D (k + 1) y)).heap.size := by simpa [World.setCell] using hsz
                generalize World.setCell wd5 ⟨pb, 0, none⟩ (.slice D (k + 1) y) = wd9 at hB9 hw39 hZ9 hown9 hb9 hsz ⊢
                clear hB hw3 hZ hown7 hb
                refine hK.out _ _ trivial (fun hHeld => ?_)
                clear hK K
                try simp only [Act.put, List.getElem_toArray, List.getElem_cons_succ, List.getElem_cons_zero, List.setIfInBounds_toArray, List.set_cons_succ, List.set_cons_zero]
                refine wpAnyH_done (by kernel_rfl) ?_ _
                clear hHeld
                go_wp2_with fail
                go_roundw
                case rel => exact ⟨k + 1, D, y, by omega, by go_num, hB9, hown9, hw39, hZ9, hb9, hsz⟩
                case measure => simp [intOf]; omega
          · obtain rfl : k = ps.length := by omega
            rw [List.take_of_length_le (Nat.le_refl _)] at hown
            obtain ⟨ys, hys⟩ : ∃ ys, ys = ps.map readL := ⟨_, rfl⟩
            rw [← hys] at hown HM
            have HY : Hid (ys.length = ps.length) := by show _ = _; rw [hys]; simp
            obtain ⟨b0, b1, b2⟩ := hB.cells3
            have hne : ¬ pb = w.heap.size := by omega
            clear hys hw3
            cases hp : isNight ys v t
            · have HPN := Lib.hid hp
              have HSOME : Hid ((nightM s).isSome = false) := by show _ = _; rw [HM.out, hp]; simp
              have HALL : Hid (∀ y, nightM s = some y → y = (ys, v, t)) := fun y hy => by rw [HM.out, hp] at hy; simp at hy
              clear hp
              go_wp2_with fail
              refine wp_region_held_drew (S := (fun w' => w'.cell? ⟨pb, 0, none⟩ = some (.slice T ps.length q3) ∧ w'.cell? ⟨pb, 1, none⟩ = some (.int .i64 v) ∧ w'.cell? ⟨pb, 2, none⟩ = some (.int .i64 t))) (by kernel_rfl) ⟨b0, b1, b2⟩ (fun hHeld => ?_)
              replace hB := hB.drew
              replace hZ := hZ.drew
              replace hb := hb.drew
              replace hown := own_belowQ hown (Below.refl _ _).drew
              replace hsz : w3.heap.size ≤ (World.drew wr).heap.size := hsz
              generalize World.drew wr = wd at hB hZ hb hown hsz hHeld ⊢
              clear b0 b1 b2
              obtain ⟨B0, B1, B2⟩ := hB.cells3
              refine wpAnyH_take (i := 0) (v := ?_) rfl (by kernel_rfl) (by kernel_rfl) (by kernel_rfl) (fun _ _ _ h => h) (Or.inl ⟨rfl, ?_⟩) hHeld ?_
              rotate_left
              · intro w' hS; obtain ⟨s0, s1, s2⟩ := hS; go_simp <;> with_reducible rfl
              simp only [Act.put, List.getElem_toArray, List.getElem_cons_succ, List.getElem_cons_zero, List.setIfInBounds_toArray, List.set_cons_succ, List.set_cons_zero]
              refine wpAnyH_take (i := 1) (v := ?_) rfl (by kernel_rfl) (by kernel_rfl) (by kernel_rfl) (fun _ _ _ h => h) (Or.inl ⟨rfl, ?_⟩) hHeld ?_
              rotate_left
              · intro w' hS; obtain ⟨s0, s1, s2⟩ := hS; go_simp <;> with_reducible rfl
              simp only [Act.put, List.getElem_toArray, List.getElem_cons_succ, List.getElem_cons_zero, List.setIfInBounds_toArray, List.set_cons_succ, List.set_cons_zero]
              refine wpAnyH_ready (rs := [2]) (by kernel_rfl) (by simp) (AllReadyH.cons rfl (fun K hK => ?_) AllReadyH.nil)
              go_simp
              obtain ⟨hhold, -⟩ := own_holdsQ hown
              refine (toGood_any T ps.length q3 ys v t _ hhold HY.out (by omega)).mono ?_
              rintro e w4 ⟨rfl, hb4⟩
              rw [HPN.out]
              clear hhold
              replace hB := hB.below hb4
              replace hown := own_belowQ hown hb4
              replace hZ := hZ.below hb4
              replace hsz := Nat.le_trans hsz hb4.size
              replace hb := below_then hb hb4 hb.size
              clear hb4 B0 B1 B2
              obtain ⟨B0, B1, B2⟩ := hB.cells3
              refine hK.out _ _ ⟨B0, B1, B2⟩ (fun hHeld => ?_)
              clear hK K
              try simp only [Act.put, List.getElem_toArray, List.getElem_cons_succ, List.getElem_cons_zero, List.setIfInBounds_toArray, List.set_cons_succ, List.set_cons_zero]
              refine wpAnyH_take (i := 3) (v := ?_) rfl (by kernel_rfl) (by kernel_rfl) (by kernel_rfl) (fun _ _ _ h => h) (Or.inl ⟨rfl, ?_⟩) hHeld ?_
              rotate_left
              · intro w' hS; obtain ⟨s0, s1, s2⟩ := hS; go_simp <;> with_reducible rfl
              simp only [Act.put, List.getElem_toArray, List.getElem_cons_succ, List.getElem_cons_zero, List.setIfInBounds_toArray, List.set_cons_succ, List.set_cons_zero]
              refine wpAnyH_take (i := 4) (v := undef) rfl (by kernel_rfl) (by kernel_rfl) (by kernel_rfl) (fun _ _ _ h => h) (Or.inr ⟨by simp [Region.wanted, yielded], rfl⟩) hHeld ?_
              simp only [Act.put, List.getElem_toArray, List.getElem_cons_succ, List.getElem_cons_zero, List.setIfInBounds_toArray, List.set_cons_succ, List.set_cons_zero]
              refine wpAnyH_take (i := 5) (v := undef) rfl (by kernel_rfl) (by kernel_rfl) (by kernel_rfl) (fun _ _ _ h => h) (Or.inr ⟨by simp [Region.wanted, yielded], rfl⟩) hHeld ?_
              simp only [Act.put, List.getElem_toArray, List.getElem_cons_succ, List.getElem_cons_zero, List.setIfInBounds_toArray, List.set_cons_succ, List.set_cons_zero]
              refine wpAnyH_take (i := 6) (v := undef) rfl (by kernel_rfl) (by kernel_rfl) (by kernel_rfl) (fun _ _ _ h => h) (Or.inr ⟨by simp [Region.wanted, yielded], rfl⟩) hHeld ?_
              simp only [Act.put, List.getElem_toArray, List.getElem_cons_succ, List.getElem_cons_zero, List.setIfInBounds_toArray, List.set_cons_succ, List.set_cons_zero]
              refine wpAnyH_take (i := 7) (v := undef) rfl (by kernel_rfl) (by kernel_rfl) (by kernel_rfl) (fun _ _ _ h => h) (Or.inr ⟨by simp [Region.wanted, yielded], rfl⟩) hHeld ?_
              simp only [Act.put, List.getElem_toArray, List.getElem_cons_succ, List.getElem_cons_zero, List.setIfInBounds_toArray, List.set_cons_succ, List.set_cons_zero]
              refine wpAnyH_take (i := 8) (v := ?_) rfl (by kernel_rfl) (by kernel_rfl) (by kernel_rfl) (fun _ _ _ h => h) (Or.inl ⟨rfl, ?_⟩) hHeld ?_
              rotate_left
              · intro w' hS; obtain ⟨s0, s1, s2⟩ := hS; go_simp <;> with_reducible rfl
              simp only [Act.put, List.getElem_toArray, List.getElem_cons_succ, List.getElem_cons_zero, List.setIfInBounds_toArray, List.set_cons_succ, List.set_cons_zero]
              refine wpAnyH_ready (rs := [9]) (by kernel_rfl) (by simp) (AllReadyH.cons rfl (fun K hK => ?_) AllReadyH.nil)
              obtain ⟨z0, z1, z2⟩ := hZ.cells3
              have zf0 := hZ.open_ 0
              have zf1 := hZ.open_ 1
              have zf2 := hZ.open_ 2
              have hzl := hZ.lt
              go_simp
              clear z0 z1 z2 zf0 zf1 zf2
              have hZ3 : Whole (((w4.setCell ⟨w.heap.size, 0, none⟩ (.slice T ps.length q3)).setCell ⟨w.heap.size, 1, none⟩ (.int .i64 v)).setCell ⟨w.heap.size, 2, none⟩ (.int .i64 t)) w.heap.size 64 #[.slice T ps.length q3, .int .i64 v, .int .i64 t] := (((hZ.set_ 0 (.slice T ps.length q3)).set_ 1 (.int .i64 v)).set_ 2 (.int .i64 t))
              have hB9 := ((hB.off (b := w.heap.size) (o := 0) (u := .slice T ps.length q3) (by omega)).off (b := w.heap.size) (o := 1) (u := .int .i64 v) (by omega)).off (b := w.heap.size) (o := 2) (u := .int .i64 t) (by omega)
              have ht9 := (below_set (o := 2) (u := .int .i64 t) (below_set (o := 1) (u := .int .i64 v) (below_set (o := 0) (u := .slice T ps.length q3) hb (Nat.le_refl _)) (Nat.le_refl _)) (Nat.le_refl _))
              have hown9 := ownsRow_setCell_below (a := ⟨w.heap.size, 2, none⟩) (ownsRow_setCell_below (a := ⟨w.heap.size, 1, none⟩) (ownsRow_setCell_below (a := ⟨w.heap.size, 0, none⟩) hown (by show w.heap.size < w3.heap.size; omega) (.slice T ps.length q3)) (by show w.heap.size < w3.heap.size; omega) (.int .i64 v)) (by show w.heap.size < w3.heap.size; omega) (.int .i64 t)
              refine hK.out _ _ hB9.cells3 (fun hHeld => ?_)
              clear hK K
              try simp only [Act.put, List.getElem_toArray, List.getElem_cons_succ, List.getElem_cons_zero, List.setIfInBounds_toArray, List.set_cons_succ, List.set_cons_zero]
              refine wpAnyH_take (i := 10) (v := ?_) rfl (by kernel_rfl) (by kernel_rfl) (by kernel_rfl) (fun _ _ _ h => h) (Or.inl ⟨rfl, ?_⟩) hHeld ?_
              rotate_left
              · intro w' hS; obtain ⟨s0, s1, s2⟩ := hS; go_simp <;> with_reducible rfl
              simp only [Act.put, List.getElem_toArray, List.getElem_cons_succ, List.getElem_cons_zero, List.setIfInBounds_toArray, List.set_cons_succ, List.set_cons_zero]
              refine wpAnyH_done (by kernel_rfl) ?_ _
              clear hHeld
              have HO := Lib.hid (own_lowQ hown9 (show w.heap.size ≤ w3.heap.size by omega))
              obtain ⟨r0, r1, r2⟩ := hZ3.cells3
              clear hown9 hown hB hB9 hZ hb
              go_wp2
              refine bodyPost_ret (v := .tuple #[.agg #[.slice T ps.length q3, .int .i64 v, .int .i64 t], .bool false]) (by simp [results, Tryd.results97, go_sem, r0, r1, r2]) rfl ?_
              obtain ⟨A', c', hv, hF⟩ := Fresh.of_own HO.out (Nat.le_refl _)
              obtain ⟨rfl, rfl⟩ : T = A' ∧ q3 = c' := by simpa using hv
              exact ⟨T, q3, ys, v, t, by rw [HY.out, HSOME.out], hF, ht9, HALL.out⟩
            · have HPN := Lib.hid hp
              obtain ⟨R, hR⟩ : ∃ R, R = nightText ys v t := ⟨_, rfl⟩
              have HRT := Lib.hid hR.symm
              obtain ⟨fl, hfl⟩ : ∃ fl, (R == s) = fl := ⟨_, rfl⟩
              have HSOME : Hid ((nightM s).isSome = fl) := by
                show _ = _
                rw [HM.out, hp, ← hfl, ← hR]
                by_cases h : R = s
                · simp [h]
                · rw [if_neg (fun x => h x.2)]
                  symm
                  exact beq_eq_false_iff_ne.2 h
              have HALL : Hid (∀ y, nightM s = some y → y = (ys, v, t)) := fun y hy => by
                rw [HM.out] at hy
                split at hy
                · exact (Option.some.inj hy).symm
                · cases hy
              clear hp hR
              go_wp2_with fail
              refine wp_region_held_drew (S := (fun w' => w'.cell? ⟨pb, 0, none⟩ = some (.slice T ps.length q3) ∧ w'.cell? ⟨pb, 1, none⟩ = some (.int .i64 v) ∧ w'.cell? ⟨pb, 2, none⟩ = some (.int .i64 t))) (by kernel_rfl) ⟨b0, b1, b2⟩ (fun hHeld => ?_)
              replace hB := hB.drew
              replace hZ := hZ.drew
              replace hb := hb.drew
              replace hown := own_belowQ hown (Below.refl _ _).drew
              replace hsz : w3.heap.size ≤ (World.drew wr).heap.size := hsz
              generalize World.drew wr = wd at hB hZ hb hown hsz hHeld ⊢
              clear b0 b1 b2
              obtain ⟨B0, B1, B2⟩ := hB.cells3
              refine wpAnyH_take (i := 0) (v := ?_) rfl (by kernel_rfl) (by kernel_rfl) (by kernel_rfl) (fun _ _ _ h => h) (Or.inl ⟨rfl, ?_⟩) hHeld ?_
              rotate_left
              · intro w' hS; obtain ⟨s0, s1, s2⟩ := hS; go_simp <;> with_reducible rfl
              simp only [Act.put, List.getElem_toArray, List.getElem_cons_succ, List.getElem_cons_zero, List.setIfInBounds_toArray, List.set_cons_succ, List.set_cons_zero]
              refine wpAnyH_take (i := 1) (v := ?_) rfl (by kernel_rfl) (by kernel_rfl) (by kernel_rfl) (fun _ _ _ h => h) (Or.inl ⟨rfl, ?_⟩) hHeld ?_
              rotate_left
              · intro w' hS; obtain ⟨s0, s1, s2⟩ := hS; go_simp <;> with_reducible rfl
              simp only [Act.put, List.getElem_toArray, List.getElem_cons_succ, List.getElem_cons_zero, List.setIfInBounds_toArray, List.set_cons_succ, List.set_cons_zero]
              refine wpAnyH_ready (rs := [2]) (by kernel_rfl) (by simp) (AllReadyH.cons rfl (fun K hK => ?_) AllReadyH.nil)
              go_simp
              obtain ⟨hhold, -⟩ := own_holdsQ hown
              refine (toGood_any T ps.length q3 ys v t _ hhold HY.out (by omega)).mono ?_
              rintro e w4 ⟨rfl, hb4⟩
              rw [HPN.out]
              clear hhold
              replace hB := hB.below hb4
              replace hown := own_belowQ hown hb4
              replace hZ := hZ.below hb4
              replace hsz := Nat.le_trans hsz hb4.size
              replace hb := below_then hb hb4 hb.size
              clear hb4 B0 B1 B2
              obtain ⟨B0, B1, B2⟩ := hB.cells3
              refine hK.out _ _ ⟨B0, B1, B2⟩ (fun hHeld => ?_)
              clear hK K
              try simp only [Act.put, List.getElem_toArray, List.getElem_cons_succ, List.getElem_cons_zero, List.setIfInBounds_toArray, List.set_cons_succ, List.set_cons_zero]
              refine wpAnyH_take (i := 3) (v := ?_) rfl (by kernel_rfl) (by kernel_rfl) (by kernel_rfl) (fun _ _ _ h => h) (Or.inl ⟨rfl, ?_⟩) hHeld ?_
              rotate_left
              · intro w' hS; obtain ⟨s0, s1, s2⟩ := hS; go_simp <;> with_reducible rfl
              simp only [Act.put, List.getElem_toArray, List.getElem_cons_succ, List.getElem_cons_zero, List.setIfInBounds_toArray, List.set_cons_succ, List.set_cons_zero]
              refine wpAnyH_take (i := 4) (v := ?_) rfl (by kernel_rfl) (by kernel_rfl) (by kernel_rfl) (fun _ _ _ h => h) (Or.inl ⟨rfl, ?_⟩) hHeld ?_
              rotate_left
              · intro w' hS; obtain ⟨s0, s1, s2⟩ := hS; go_simp <;> with_reducible rfl
              simp only [Act.put, List.getElem_toArray, List.getElem_cons_succ, List.getElem_cons_zero, List.setIfInBounds_toArray, List.set_cons_succ, List.set_cons_zero]
              refine wpAnyH_take (i := 6) (v := ?_) rfl (by kernel_rfl) (by kernel_rfl) (by kernel_rfl) (fun _ _ _ h => h) (Or.inl ⟨rfl, ?_⟩) hHeld ?_
              rotate_left
              · intro w' hS; obtain ⟨s0, s1, s2⟩ := hS; go_simp <;> with_reducible rfl
              simp only [Act.put, List.getElem_toArray, List.getElem_cons_succ, List.getElem_cons_zero, List.setIfInBounds_toArray, List.set_cons_succ, List.set_cons_zero]
              refine wpAnyH_ready (rs := [5]) (by kernel_rfl) (by simp) (AllReadyH.cons rfl (fun K hK => ?_) AllReadyH.nil)
              go_simp
              obtain ⟨hhold, -⟩ := own_holdsQ hown
              refine (toText_any T ps.length q3 ys v t _ hhold HY.out HPN.out).mono ?_
              rintro e w5 ⟨rfl, hb4⟩
              rw [HRT.out]
              clear hhold
              replace hB := hB.below hb4
              replace hown := own_belowQ hown hb4
              replace hZ := hZ.below hb4
              replace hsz := Nat.le_trans hsz hb4.size
              replace hb := below_then hb hb4 hb.size
              clear hb4 B0 B1 B2
              obtain ⟨B0, B1, B2⟩ := hB.cells3
              refine hK.out _ _ ⟨B0, B1, B2⟩ (fun hHeld => ?_)
              clear hK K
              try simp only [Act.put, List.getElem_toArray, List.getElem_cons_succ, List.getElem_cons_zero, List.setIfInBounds_toArray, List.set_cons_succ, List.set_cons_zero]
              refine wpAnyH_take (i := 7) (v := ?_) rfl (by kernel_rfl) (by kernel_rfl) (by kernel_rfl) (fun _ _ _ h => h) (Or.inl ⟨rfl, ?_⟩) hHeld ?_
              rotate_left
              · intro w' hS; obtain ⟨s0, s1, s2⟩ := hS; go_simp <;> with_reducible rfl
              simp only [Act.put, List.getElem_toArray, List.getElem_cons_succ, List.getElem_cons_zero, List.setIfInBounds_toArray, List.set_cons_succ, List.set_cons_zero]
              refine wpAnyH_take (i := 8) (v := ?_) rfl (by kernel_rfl) (by kernel_rfl) (by kernel_rfl) (fun _ _ _ h => h) (Or.inl ⟨rfl, ?_⟩) hHeld ?_
              rotate_left
              · intro w' hS; obtain ⟨s0, s1, s2⟩ := hS; go_simp <;> with_reducible rfl
              simp only [Act.put, List.getElem_toArray, List.getElem_cons_succ, List.getElem_cons_zero, List.setIfInBounds_toArray, List.set_cons_succ, List.set_cons_zero]
              refine wpAnyH_ready (rs := [9]) (by kernel_rfl) (by simp) (AllReadyH.cons rfl (fun K hK => ?_) AllReadyH.nil)
              obtain ⟨z0, z1, z2⟩ := hZ.cells3
              have zf0 := hZ.open_ 0
              have zf1 := hZ.open_ 1
              have zf2 := hZ.open_ 2
              have hzl := hZ.lt
              go_simp
              clear z0 z1 z2 zf0 zf1 zf2
              have hZ3 : Whole (((w5.setCell ⟨w.heap.size, 0, none⟩ (.slice T ps.length q3)).setCell ⟨w.heap.size, 1, none⟩ (.int .i64 v)).setCell ⟨w.heap.size, 2, none⟩ (.int .i64 t)) w.heap.size 64 #[.slice T ps.length q3, .int .i64 v, .int .i64 t] := (((hZ.set_ 0 (.slice T ps.length q3)).set_ 1 (.int .i64 v)).set_ 2 (.int .i64 t))
              have hB9 := ((hB.off (b := w.heap.size) (o := 0) (u := .slice T ps.length q3) (by omega)).off (b := w.heap.size) (o := 1) (u := .int .i64 v) (by omega)).off (b := w.heap.size) (o := 2) (u := .int .i64 t) (by omega)
              have ht9 := (below_set (o := 2) (u := .int .i64 t) (below_set (o := 1) (u := .int .i64 v) (below_set (o := 0) (u := .slice T ps.length q3) hb (Nat.le_refl _)) (Nat.le_refl _)) (Nat.le_refl _))
              have hown9 := ownsRow_setCell_below (a := ⟨w.heap.size, 2, none⟩) (ownsRow_setCell_below (a := ⟨w.heap.size, 1, none⟩) (ownsRow_setCell_below (a := ⟨w.heap.size, 0, none⟩) hown (by show w.heap.size < w3.heap.size; omega) (.slice T ps.length q3)) (by show w.heap.size < w3.heap.size; omega) (.int .i64 v)) (by show w.heap.size < w3.heap.size; omega) (.int .i64 t)
              refine hK.out _ _ hB9.cells3 (fun hHeld => ?_)
              clear hK K
              try simp only [Act.put, List.getElem_toArray, List.getElem_cons_succ, List.getElem_cons_zero, List.setIfInBounds_toArray, List.set_cons_succ, List.set_cons_zero]
              refine wpAnyH_take (i := 10) (v := ?_) rfl (by kernel_rfl) (by kernel_rfl) (by kernel_rfl) (fun _ _ _ h => h) (Or.inl ⟨rfl, ?_⟩) hHeld ?_
              rotate_left
              · intro w' hS; obtain ⟨s0, s1, s2⟩ := hS; go_simp <;> with_reducible rfl
              simp only [Act.put, List.getElem_toArray, List.getElem_cons_succ, List.getElem_cons_zero, List.setIfInBounds_toArray, List.set_cons_succ, List.set_cons_zero]
              refine wpAnyH_done (by kernel_rfl) ?_ _
              clear hHeld
              have HO := Lib.hid (own_lowQ hown9 (show w.heap.size ≤ w3.heap.size by omega))
              obtain ⟨r0, r1, r2⟩ := hZ3.cells3
              clear hown9 hown hB hB9 hZ hb
              go_wp2
              refine bodyPost_ret (v := .tuple #[.agg #[.slice T ps.length q3, .int .i64 v, .int .i64 t], .bool fl]) (by simp [results, Tryd.results97, go_sem, r0, r1, r2]) rfl ?_
              obtain ⟨A', c', hv, hF⟩ := Fresh.of_own HO.out (Nat.le_refl _)
              obtain ⟨rfl, rfl⟩ : T = A' ∧ q3 = c' := by simpa using hv
              exact ⟨T, q3, ys, v, t, by rw [HY.out, HSOME.out], hF, ht9, HALL.out⟩
    · have HR := Lib.hid (show nightM s = none by unfold nightM; rw [HAR.out]; rw [if_neg fun h => h2 h.2.2])
      obtain ⟨z0, z1, z2⟩ := hZ.cells3
      have zf0 := hZ.open_ 0
      have zf1 := hZ.open_ 1
      have zf2 := hZ.open_ 2
      have hzl := hZ.lt
      generalize (pieces 58 r).length = n at h2 hown hpl3 ⊢
      have hn2 : ((n : Int) != 2) = true := by
        rw [bne_iff_ne]
        exact fun h => h2 (by omega)
      clear hown h2 hw1 e1 hb
      have hZ3 : Whole (((w2.setCell ⟨w.heap.size, 0, none⟩ (.slice none 0 0)).setCell ⟨w.heap.size, 1, none⟩ (.int .i64 0)).setCell ⟨w.heap.size, 2, none⟩ (.int .i64 0)) w.heap.size 64 #[.slice none 0 0, .int .i64 0, .int .i64 0] := (((hZ.set_ 0 (.slice none 0 0)).set_ 1 (.int .i64 0)).set_ 2 (.int .i64 0))
      have ht5 := (below_set (o := 2) (u := .int .i64 0) (below_set (o := 1) (u := .int .i64 0) (below_set (o := 0) (u := .slice none 0 0) ht (Nat.le_refl _)) (Nat.le_refl _)) (Nat.le_refl _))
      obtain ⟨r0, r1, r2⟩ := hZ3.cells3
      go_wp2
      refine bodyPost_ret (v := .tuple #[.agg #[.slice none 0 0, .int .i64 0, .int .i64 0], .bool false]) (by simp [results, Tryd.results97, go_sem, r0, r1, r2]) rfl ?_
      exact NiTry.no HR.out ht5
  · have HR := Lib.hid (show nightM s = none by unfold nightM; rw [if_neg fun h => hc ⟨h.1, h.2.1⟩])
    obtain ⟨z0, z1, z2⟩ := hZ.cells3
    have zf0 := hZ.open_ 0
    have zf1 := hZ.open_ 1
    have zf2 := hZ.open_ 2
    have hzl := hZ.lt
    generalize (pieces 42 s).length = n at hc hown hpl ⊢
    rcases Nat.lt_or_ge 60 s.length with h60 | h60
    · have hs60 : (s.length : Int) > 60 := by omega
      clear hown hc
      have hZ3 : Whole (((w1.setCell ⟨w.heap.size, 0, none⟩ (.slice none 0 0)).setCell ⟨w.heap.size, 1, none⟩ (.int .i64 0)).setCell ⟨w.heap.size, 2, none⟩ (.int .i64 0)) w.heap.size 64 #[.slice none 0 0, .int .i64 0, .int .i64 0] := (((hZ.set_ 0 (.slice none 0 0)).set_ 1 (.int .i64 0)).set_ 2 (.int .i64 0))
      have ht5 := (below_set (o := 2) (u := .int .i64 0) (below_set (o := 1) (u := .int .i64 0) (below_set (o := 0) (u := .slice none 0 0) ht (Nat.le_refl _)) (Nat.le_refl _)) (Nat.le_refl _))
      obtain ⟨r0, r1, r2⟩ := hZ3.cells3
      go_wp2
      refine bodyPost_ret (v := .tuple #[.agg #[.slice none 0 0, .int .i64 0, .int .i64 0], .bool false]) (by simp [results, Tryd.results97, go_sem, r0, r1, r2]) rfl ?_
      exact NiTry.no HR.out ht5
    · have hs60 : ¬ ((s.length : Int) > 60) := by omega
      have hn2 : ((n : Int) != 2) = true := by
        rw [bne_iff_ne]
        exact fun h => hc ⟨h60, by omega⟩
      clear hown hc
      have hZ3 : Whole (((w1.setCell ⟨w.heap.size, 0, none⟩ (.slice none 0 0)).setCell ⟨w.heap.size, 1, none⟩ (.int .i64 0)).setCell ⟨w.heap.size, 2, none⟩ (.int .i64 0)) w.heap.size 64 #[.slice none 0 0, .int .i64 0, .int .i64 0] := (((hZ.set_ 0 (.slice none 0 0)).set_ 1 (.int .i64 0)).set_ 2 (.int .i64 0))
      have ht5 := (below_set (o := 2) (u := .int .i64 0) (below_set (o := 1) (u := .int .i64 0) (below_set (o := 0) (u := .slice none 0 0) ht (Nat.le_refl _)) (Nat.le_refl _)) (Nat.le_refl _))
      obtain ⟨r0, r1, r2⟩ := hZ3.cells3
      go_wp2
      refine bodyPost_ret (v := .tuple #[.agg #[.slice none 0 0, .int .i64 0, .int .i64 0], .bool false]) (by simp [results, Tryd.results97, go_sem, r0, r1, r2]) rfl ?_
      exact NiTry.no HR.out ht5
end Go.Proofs.YtedkanncdkofaaaDoor

namespace Go.Proofs.YtedkanncdkofaaaDoor
open Go.RowKit

set_option maxHeartbeats 1600000 in
set_option maxRecDepth 100000 in
theorem specParseNight_any (s : List UInt8) (w : World) (hl : s.length ≤ 1048576) :
    Calls Tryd.prog 45 #[.string (strOf s)] w (NiPost (nightI s) w) := by
  have hZ := Whole.fresh w 64 #[.slice none 0 0, .int .i64 0, .int .i64 0]
  have ht0 := below1 w (.cells #[.slice none 0 0, .int .i64 0, .int .i64 0] 64)
  have HS := Lib.hid (night_same s)
  go_enter Tryd.func45, Tryd.ntmps45
  go_wp2_with fail
  refine (toParse_any s _ hl).mono ?_
  rintro e w1 ⟨A, c, xs, v, t, rfl, hF, hb, hall⟩
  rw [HS.out] at hall ⊢
  have ht := below_then ht0 hb (by simp)
  have hF2 := hF.more (lo' := w.heap.size + 1) (hi' := w1.heap.size) (by simp) (Nat.le_refl _)
  replace hZ := hZ.below hb
  have hB := Whole.fresh w1 64 #[.slice A xs.length c, .int .i64 v, .int .i64 t]
  obtain ⟨b0, b1, b2⟩ := hB.cells3
  clear hb ht0 hF hB
  obtain ⟨z0, z1, z2⟩ := hZ.cells3
  have zf0 := hZ.open_ 0
  have zf1 := hZ.open_ 1
  have zf2 := hZ.open_ 2
  have hzl := hZ.lt
  obtain ⟨ok, hok⟩ : ∃ ok, ok = (nightI s).isSome := ⟨_, rfl⟩
  rw [← hok]
  have HOK := Lib.hid hok
  clear hok
  cases ok
  · have hpn : nightI s = none := by
      have h := HOK.out
      cases hh : nightI s with
      | none => rfl
      | some y => rw [hh] at h; cases h
    have HR := Lib.hid hpn
    have hZ3 : Whole ((((w1.setCell ⟨w.heap.size, 0, none⟩ (.slice none 0 0)).setCell ⟨w.heap.size, 1, none⟩ (.int .i64 0)).setCell ⟨w.heap.size, 2, none⟩ (.int .i64 0)).alloc (.cells #[.slice A xs.length c, .int .i64 v, .int .i64 t] 64)) w.heap.size 64 #[.slice none 0 0, .int .i64 0, .int .i64 0] := (((hZ.set_ 0 (.slice none 0 0)).set_ 1 (.int .i64 0)).set_ 2 (.int .i64 0)).alloc _
    have ht3 := below_set (o := 2) (u := .int .i64 0) (below_set (o := 1) (u := .int .i64 0) (below_set (o := 0) (u := .slice none 0 0) ht (Nat.le_refl _)) (Nat.le_refl _)) (Nat.le_refl _)
    have ht5 := ht3.alloc ht3.size (.cells #[.slice A xs.length c, .int .i64 v, .int .i64 t] 64)
    obtain ⟨r0, r1, r2⟩ := hZ3.cells3
    clear hall hF2 hpn ht3
    go_wp2
    refine bodyPost_ret (v := .tuple #[.agg #[.slice none 0 0, .int .i64 0, .int .i64 0], .bool false]) (by simp [results, Tryd.results45, go_sem, r0, r1, r2]) rfl ?_
    rw [HR.out]
    exact NiPost.no ht5
  · have hpy : nightI s = some (xs, v, t) := by
      have h := HOK.out
      cases hh : nightI s with
      | none => rw [hh] at h; cases h
      | some y => rw [hall y hh]
    have HR := Lib.hid hpy
    have hZ3 : Whole ((((w1.setCell ⟨w.heap.size, 0, none⟩ (.slice A xs.length c)).setCell ⟨w.heap.size, 1, none⟩ (.int .i64 v)).setCell ⟨w.heap.size, 2, none⟩ (.int .i64 t)).alloc (.cells #[.slice A xs.length c, .int .i64 v, .int .i64 t] 64)) w.heap.size 64 #[.slice A xs.length c, .int .i64 v, .int .i64 t] := (((hZ.set_ 0 (.slice A xs.length c)).set_ 1 (.int .i64 v)).set_ 2 (.int .i64 t)).alloc _
    have ht3 := below_set (o := 2) (u := .int .i64 t) (below_set (o := 1) (u := .int .i64 v) (below_set (o := 0) (u := .slice A xs.length c) ht (Nat.le_refl _)) (Nat.le_refl _)) (Nat.le_refl _)
    have ht5 := ht3.alloc ht3.size (.cells #[.slice A xs.length c, .int .i64 v, .int .i64 t] 64)
    have hF5 := (fresh_offQ (o := 2) (u := .int .i64 t) (fresh_offQ (o := 1) (u := .int .i64 v) (fresh_offQ (b := w.heap.size) (o := 0) (u := .slice A xs.length c) hF2 (Nat.lt_succ_self _)) (Nat.lt_succ_self w.heap.size)) (Nat.lt_succ_self w.heap.size)).alloc (.cells #[.slice A xs.length c, .int .i64 v, .int .i64 t] 64)
    obtain ⟨r0, r1, r2⟩ := hZ3.cells3
    clear hall hF2 hpy ht3
    go_wp2
    refine bodyPost_ret (v := .tuple #[.agg #[.slice A xs.length c, .int .i64 v, .int .i64 t], .bool true]) (by simp [results, Tryd.results45, go_sem, r0, r1, r2]) rfl ?_
    rw [HR.out]
    exact ⟨A, c, rfl, hF5.more (Nat.le_succ _) (by simp [World.setCell]), ht5⟩

/-- The times, the seats, the torches, and whether there is a night. -/
def nXs (s : List UInt8) : List Int := ((nightI s).map (·.1)).getD []
def nSe (s : List UInt8) : Int := ((nightI s).map (·.2.1)).getD 0
def nTo (s : List UInt8) : Int := ((nightI s).map (·.2.2)).getD 0
def nOk (s : List UInt8) : Bool := (nightI s).isSome
theorem nXs_le (s : List UInt8) : (nXs s).length ≤ 1048576 := by
  have h : ∀ x, nightI s = some x → x.1.length ≤ 8 := by
    intro x hx
    unfold nightI at hx
    split at hx
    · split at hx
      · rename_i h
        cases hx
        have := (isNight_parts.1 h).2.1
        exact Nat.le_trans this (by omega)
      · cases hx
    · cases hx
  unfold nXs
  cases hp : nightI s with
  | none => simp
  | some x => have := h x hp; simp; omega
/-- What a call hands back that reads a night. -/
def NightPostQ (xs : List Int) (s t : Int) (ok : Bool) (w : World) (e : Ending) (w' : World) : Prop :=
  ∃ (A : Option Addr) (c : Nat), e = .returned (.tuple #[.agg #[.slice A xs.length c, .int .i64 s, .int .i64 t], .bool ok]) ∧ Fresh w' w.heap.size w'.heap.size 3 A (nums xs) ∧ Below w.heap.size w w'
theorem specParseNight_on (s : List UInt8) (w : World) (hl : s.length ≤ 1048576) :
    Calls Tryd.prog 45 #[.string (strOf s)] w (NightPostQ (nXs s) (nSe s) (nTo s) (nOk s) w) := specParseNight_any s w hl
theorem implParseNight_on (s : List UInt8) (w : World) (hl : s.length ≤ 1048576) (hL : LibLay w) :
    Calls Tryd.prog 46 #[.string (strOf s)] w (NightPostQ (nXs s) (nSe s) (nTo s) (nOk s) w) := implParseNight_any s w hl hL
set_option maxHeartbeats 800000 in
theorem heldNight_any (A : Option Addr) (n c : Nat) (s t q : Int) (w : World) (hA : Holds w A (nums (marksI q n))) (h0 : 0 ≤ q) (h1 : q ≤ 4611686018427387904) (hn : n ≤ 1048576) :
    Calls Tryd.prog 48 #[.agg #[.slice A n c, .int .i64 s, .int .i64 t], .int .i64 q] w fun e w' => e = .returned (.int .i64 (q + n)) ∧ Below w.heap.size w w' := by
  have hq0 : (0 : Int) ≤ q + n := by omega
  go_enter Tryd.func48, Tryd.ntmps48
  go_wp2_with fail
  refine (heldIntS_any A n c q _ (hA.alloc _) h0 h1 hn).mono ?_
  rintro e w1 ⟨rfl, rfl⟩
  go_wp2
  go_ret
  exact ⟨rfl, below1 w _⟩
end Go.Proofs.YtedkanncdkofaaaDoor

namespace Go.Proofs.YtedkanncdkofaaaDoor
open Go.RowKit

set_option maxHeartbeats 12800000 in
set_option maxRecDepth 100000 in
set_option linter.unusedSimpArgs false in
set_option linter.unusedVariables false in
theorem lawParseNight_small (s0_ : List UInt8) (w : World)  (hL : LibLay w) (hs0_ : s0_.length ≤ 1048576)  :
    Calls Tryd.prog 10 #[.string (strOf s0_)] w fun e w' => e = .returned (.bool true) ∧ Below w.heap.size w w' := by
  have ht := Below.refl w.heap.size w
  have hlen : ((nXs s0_)).length ≤ 1048576 := nXs_le _
  have hls0_ : ¬ ((s0_.length : Int) > 1048576) := by omega
  go_enter Tryd.func10, Tryd.ntmps10
  -- region 3
  go_wp2_with fail
  refine (specParseNight_on s0_ _ hs0_).mono ?_
  rintro e v1 ⟨B0, q0, rfl, hF0, hb⟩
  have hz1 : w.heap.size ≤ v1.heap.size := by have := hb.size; simpa using this
  replace ht := below_then ht hb ht.size
  replace hF0 := hF0.more (lo' := w.heap.size) (hi' := v1.heap.size) (by simp) (Nat.le_refl _)
  have hR0 := Whole.fresh v1 64 #[.slice B0 ((nXs s0_)).length q0, .int .i64 (nSe s0_), .int .i64 (nTo s0_)]
  replace ht := ht.alloc ht.size (.cells #[.slice B0 ((nXs s0_)).length q0, .int .i64 (nSe s0_), .int .i64 (nTo s0_)] 64)
  replace hF0 := hF0.alloc (.cells #[.slice B0 ((nXs s0_)).length q0, .int .i64 (nSe s0_), .int .i64 (nTo s0_)] 64)
  clear hb
  obtain ⟨hR0_0, hR0_1, hR0_2⟩ := hR0.cells3
  have hR0_l := hR0.lt
  -- region 4
  go_wp2_with fail
  refine (implParseNight_on s0_ _ hs0_ (hL.below ht)).mono ?_
  rintro e v2 ⟨B1, q1, rfl, hF1, hb⟩
  have hz2 : v1.heap.size + 1 ≤ v2.heap.size := by have := hb.size; simpa using this
  replace ht := below_then ht hb ht.size
  replace hF0 := hF0.below hb
  replace hR0 := hR0.below hb
  replace hF1 := hF1.more (lo' := v1.heap.size + 1) (hi' := v2.heap.size) (by simp) (Nat.le_refl _)
  have hR1 := Whole.fresh v2 64 #[.slice B1 ((nXs s0_)).length q1, .int .i64 (nSe s0_), .int .i64 (nTo s0_)]
  replace ht := ht.alloc ht.size (.cells #[.slice B1 ((nXs s0_)).length q1, .int .i64 (nSe s0_), .int .i64 (nTo s0_)] 64)
  replace hF0 := hF0.alloc (.cells #[.slice B1 ((nXs s0_)).length q1, .int .i64 (nSe s0_), .int .i64 (nTo s0_)] 64)
  replace hR0 := hR0.alloc (.cells #[.slice B1 ((nXs s0_)).length q1, .int .i64 (nSe s0_), .int .i64 (nTo s0_)] 64)
  replace hF1 := hF1.alloc (.cells #[.slice B1 ((nXs s0_)).length q1, .int .i64 (nSe s0_), .int .i64 (nTo s0_)] 64)
  clear hb
  clear hR0_0 hR0_1 hR0_2 hR0_l
  obtain ⟨hR0_0, hR0_1, hR0_2⟩ := hR0.cells3
  have hR0_l := hR0.lt
  obtain ⟨hR1_0, hR1_1, hR1_2⟩ := hR1.cells3
  have hR1_l := hR1.lt
  -- region 5
  go_wp2_with fail
  refine (eqNight_yes B1 B0 ((nXs s0_)).length q1 q0 ((nXs s0_)) (nSe s0_) (nTo s0_) _ (by exact hF1.holds) (by exact hF0.holds) rfl (by omega)).mono ?_
  rintro e v3 ⟨rfl, hb⟩
  have hz3 : v2.heap.size + 1 ≤ v3.heap.size := by have := hb.size; simpa using this
  replace ht := below_then ht hb ht.size
  replace hF0 := hF0.below hb
  replace hR0 := hR0.below hb
  replace hF1 := hF1.below hb
  replace hR1 := hR1.below hb
  clear hb
  clear hR0_0 hR0_1 hR0_2 hR0_l hR1_0 hR1_1 hR1_2 hR1_l
  obtain ⟨hR0_0, hR0_1, hR0_2⟩ := hR0.cells3
  have hR0_l := hR0.lt
  obtain ⟨hR1_0, hR1_1, hR1_2⟩ := hR1.cells3
  have hR1_l := hR1.lt
  -- region 8
  go_wp2_with fail
  refine (markNight_any B1 ((nXs s0_)).length q1 _ _ _ (nSe s0_) (nTo s0_) 1 _ hF1 (by rw [nums_len]) (by omega) (by omega) hlen).mono ?_
  rintro e v4 ⟨rfl, hs, hM⟩
  have hsz := ht.size
  replace ht := hs.below ht (by omega) hsz
  replace hF0 := hs.fresh hF0 (by omega)
  replace hR0 := hs.whole hR0 (by omega)
  replace hR1 := hs.whole hR1 (by omega)
  clear hs hF1 hsz
  clear hR0_0 hR0_1 hR0_2 hR0_l hR1_0 hR1_1 hR1_2 hR1_l
  obtain ⟨hR0_0, hR0_1, hR0_2⟩ := hR0.cells3
  have hR0_l := hR0.lt
  obtain ⟨hR1_0, hR1_1, hR1_2⟩ := hR1.cells3
  have hR1_l := hR1.lt
  -- region 10
  go_wp2_with fail
  refine (heldNight_any B1 ((nXs s0_)).length q1 (nSe s0_) (nTo s0_) 1 _ (by exact hM.holds) (by omega) (by omega) hlen).mono ?_
  rintro e v5 ⟨rfl, hb⟩
  have hz5 : v4.heap.size ≤ v5.heap.size := by have := hb.size; simpa using this
  replace ht := below_then ht hb ht.size
  replace hF0 := hF0.below hb
  replace hR0 := hR0.below hb
  replace hR1 := hR1.below hb
  replace hM := hM.below hb
  clear hb
  have hm0 : (0 : Int) ≤ 1 + (((nXs s0_)).length : Int) := by omega
  clear hR0_0 hR0_1 hR0_2 hR0_l hR1_0 hR1_1 hR1_2 hR1_l
  obtain ⟨hR0_0, hR0_1, hR0_2⟩ := hR0.cells3
  have hR0_l := hR0.lt
  obtain ⟨hR1_0, hR1_1, hR1_2⟩ := hR1.cells3
  have hR1_l := hR1.lt
  -- region 15
  go_wp2_with fail
  refine (implParseNight_on s0_ _ hs0_ (hL.below ht)).mono ?_
  rintro e v6 ⟨B2, q2, rfl, hF2, hb⟩
  have hz6 : v5.heap.size ≤ v6.heap.size := by have := hb.size; simpa using this
  replace ht := below_then ht hb ht.size
  replace hF0 := hF0.below hb
  replace hR0 := hR0.below hb
  replace hR1 := hR1.below hb
  replace hM := hM.below hb
  replace hF2 := hF2.more (lo' := v5.heap.size) (hi' := v6.heap.size) (by simp) (Nat.le_refl _)
  have hR2 := Whole.fresh v6 64 #[.slice B2 ((nXs s0_)).length q2, .int .i64 (nSe s0_), .int .i64 (nTo s0_)]
  replace ht := ht.alloc ht.size (.cells #[.slice B2 ((nXs s0_)).length q2, .int .i64 (nSe s0_), .int .i64 (nTo s0_)] 64)
  replace hF0 := hF0.alloc (.cells #[.slice B2 ((nXs s0_)).length q2, .int .i64 (nSe s0_), .int .i64 (nTo s0_)] 64)
  replace hR0 := hR0.alloc (.cells #[.slice B2 ((nXs s0_)).length q2, .int .i64 (nSe s0_), .int .i64 (nTo s0_)] 64)
  replace hR1 := hR1.alloc (.cells #[.slice B2 ((nXs s0_)).length q2, .int .i64 (nSe s0_), .int .i64 (nTo s0_)] 64)
  replace hM := hM.alloc (.cells #[.slice B2 ((nXs s0_)).length q2, .int .i64 (nSe s0_), .int .i64 (nTo s0_)] 64)
  replace hF2 := hF2.alloc (.cells #[.slice B2 ((nXs s0_)).length q2, .int .i64 (nSe s0_), .int .i64 (nTo s0_)] 64)
  clear hb
  clear hR0_0 hR0_1 hR0_2 hR0_l hR1_0 hR1_1 hR1_2 hR1_l
  obtain ⟨hR0_0, hR0_1, hR0_2⟩ := hR0.cells3
  have hR0_l := hR0.lt
  obtain ⟨hR1_0, hR1_1, hR1_2⟩ := hR1.cells3
  have hR1_l := hR1.lt
  obtain ⟨hR2_0, hR2_1, hR2_2⟩ := hR2.cells3
  have hR2_l := hR2.lt
  -- region 16
  go_wp2_with fail
  refine (eqNight_yes B2 B0 ((nXs s0_)).length q2 q0 ((nXs s0_)) (nSe s0_) (nTo s0_) _ (by exact hF2.holds) (by exact hF0.holds) rfl (by omega)).mono ?_
  rintro e v7 ⟨rfl, hb⟩
  have hz7 : v6.heap.size + 1 ≤ v7.heap.size := by have := hb.size; simpa using this
  replace ht := below_then ht hb ht.size
  replace hF0 := hF0.below hb
  replace hR0 := hR0.below hb
  replace hR1 := hR1.below hb
  replace hM := hM.below hb
  replace hF2 := hF2.below hb
  replace hR2 := hR2.below hb
  clear hb
  clear hR0_0 hR0_1 hR0_2 hR0_l hR1_0 hR1_1 hR1_2 hR1_l hR2_0 hR2_1 hR2_2 hR2_l
  obtain ⟨hR0_0, hR0_1, hR0_2⟩ := hR0.cells3
  have hR0_l := hR0.lt
  obtain ⟨hR1_0, hR1_1, hR1_2⟩ := hR1.cells3
  have hR1_l := hR1.lt
  obtain ⟨hR2_0, hR2_1, hR2_2⟩ := hR2.cells3
  have hR2_l := hR2.lt
  -- region 19
  go_wp2_with fail
  refine (heldNight_any B1 ((nXs s0_)).length q1 (nSe s0_) (nTo s0_) 1 _ (by exact hM.holds) (by omega) (by omega) hlen).mono ?_
  rintro e v8 ⟨rfl, hb⟩
  have hz8 : v7.heap.size ≤ v8.heap.size := by have := hb.size; simpa using this
  replace ht := below_then ht hb ht.size
  replace hF0 := hF0.below hb
  replace hR0 := hR0.below hb
  replace hR1 := hR1.below hb
  replace hM := hM.below hb
  replace hF2 := hF2.below hb
  replace hR2 := hR2.below hb
  clear hb
  clear hR0_0 hR0_1 hR0_2 hR0_l hR1_0 hR1_1 hR1_2 hR1_l hR2_0 hR2_1 hR2_2 hR2_l
  obtain ⟨hR0_0, hR0_1, hR0_2⟩ := hR0.cells3
  have hR0_l := hR0.lt
  obtain ⟨hR1_0, hR1_1, hR1_2⟩ := hR1.cells3
  have hR1_l := hR1.lt
  obtain ⟨hR2_0, hR2_1, hR2_2⟩ := hR2.cells3
  have hR2_l := hR2.lt
  go_wp2
  go_ret
  exact ⟨rfl, ht⟩

set_option maxRecDepth 100000 in
set_option linter.unusedVariables false in
theorem lawParseNight_big (s0_ : List UInt8) (w : World) (hbig : 1048576 < s0_.length) :
    Calls Tryd.prog 10 #[.string (strOf s0_)] w fun e w' => e = .returned (.bool true) ∧ Below w.heap.size w w' := by
  have hl : (s0_.length : Int) > 1048576 := by omega
  go_enter Tryd.func10, Tryd.ntmps10
  go_wp2
  go_ret
  exact ⟨rfl, Below.refl _ _⟩

theorem lawParseNight_all (s0_ : List UInt8) (w : World) (hL : LibLay w) :
    Calls Tryd.prog 10 #[.string (strOf s0_)] w fun e w' => e = .returned (.bool true) ∧ Below w.heap.size w w' := by
  rcases Nat.lt_or_ge 1048576 s0_.length with h | h
  · exact lawParseNight_big s0_ w h
  · exact lawParseNight_small s0_ w hL h
end Go.Proofs.YtedkanncdkofaaaDoor
