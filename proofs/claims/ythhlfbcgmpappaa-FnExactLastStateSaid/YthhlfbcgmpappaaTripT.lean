/-
  What is proved: contracts of the model's and the program's TripTime. Conditions: the party's times and the list are read as they lie.
-/
import Derived.Test.YthhlfbcgmpappaaCrowdOf
namespace Go.Proofs.Ythhlfbcgmpappaa
open Go.RowKit

/-- Two lists of one reading are the same. -/
theorem eqIntS_yes (A B : Option Addr) (n c d : Nat) (xs : List Int) (w : World) (hA : Holds w A (nums xs)) (hB : Holds w B (nums xs)) (hx : xs.length = n) (hn : n ≤ 9223372036854775807) :
    Calls Try.prog 63 #[.slice A n c, .slice B n d] w fun e w' => e = .returned (.bool true) ∧ Below w.heap.size w w' :=
  (eqIntS_any A B n n c d xs xs w hA hB hx hx hn hn).mono fun _ _ ⟨he, k, hw⟩ => ⟨by rw [he, sameInts_yes rfl], by rw [hw]; exact below_draws (Below.refl _ _) k⟩

/-- TripTime's number: 0 where the call fails. -/
noncomputable def tripTime (xs : List Int) (n : Nat) (s : Int) (l : List Int) : Int := if isParty xs s && isTrip n s l then slowOf xs l else 0
theorem tripTime_yes {xs l : List Int} {n : Nat} {s : Int} (h1 : isParty xs s = true) (h2 : isTrip n s l = true) : tripTime xs n s l = slowOf xs l := by simp [tripTime, h1, h2]
theorem tripTime_no1 {xs l : List Int} {n : Nat} {s : Int} (h1 : isParty xs s = false) : tripTime xs n s l = 0 := by simp [tripTime, h1]
theorem tripTime_no2 {xs l : List Int} {n : Nat} {s : Int} (h2 : isTrip n s l = false) : tripTime xs n s l = 0 := by simp [tripTime, h2]

theorem trip_steps {n : Nat} {s : Int} {l : List Int} (h : isTrip n s l = true) : StepsTo l (n - 1) l.length := by
  simp only [isTrip, Bool.and_eq_true] at h
  exact rising_steps h.2

set_option maxHeartbeats 800000 in
theorem specTripTime_any (A B : Option Addr) (n c m d : Nat) (xs l : List Int) (s : Int) (w : World) (hA : Holds w A (nums xs)) (hB : Holds w B (nums l)) (hx : xs.length = n) (hy : l.length = m) (hn : n ≤ 9223372036854775807) (hm : m ≤ 9223372036854775807) :
    Calls Try.prog 36 #[.agg #[.slice A n c, .int .i64 s], .slice B m d] w fun e w' => e = .returned (.tuple #[.int .i64 (tripTime xs n s l), .bool (isParty xs s && isTrip n s l)]) ∧ Below w.heap.size w w' := by
  have HX := Lib.hid hx
  have HY := Lib.hid hy
  clear hx hy
  have hp := Whole.fresh w 26 #[.slice A n c, .int .i64 s]
  have hA1 := hA.alloc (.cells #[.slice A n c, .int .i64 s] 26)
  have hB1 := hB.alloc (.cells #[.slice A n c, .int .i64 s] 26)
  cases h1 : isParty xs s
  · have H1 := Lib.hid h1
    clear h1
    go_enter Try.func36, Try.ntmps36
    go_wp2_with fail
    refine (paGood_any A n c xs s _ hA1 HX.out hn).mono ?_
    rintro e w1 ⟨rfl, hb⟩
    rw [H1.out]
    go_wp2
    go_ret2
    exact ⟨by rw [tripTime_no1 H1.out]; rfl, below_then (below1 w _) hb (by simp)⟩
  · have H1 := Lib.hid h1
    clear h1
    cases h2 : isTrip n s l
    all_goals
      have H2 := Lib.hid h2
      go_enter Try.func36, Try.ntmps36
      go_wp2_with fail
      refine (paGood_any A n c xs s _ hA1 HX.out hn).mono ?_
      rintro e w1 ⟨rfl, hb⟩
      rw [H1.out]
      have ht := below_then (below1 w _) hb (by simp)
      replace hp := hp.below hb
      replace hA1 := hA1.below hb
      replace hB1 := hB1.below hb
      obtain ⟨c0, c1, -, -⟩ := hp.two
      clear hb h2
      go_wp2_with fail
      refine (paTrip_any A B n c m d l s _ hB1 HY.out hm hn).mono ?_
      rintro e w2 ⟨rfl, hb⟩
      rw [H2.out]
      replace ht := below_then ht hb ht.size
      replace hp := hp.below hb
      replace hA1 := hA1.below hb
      replace hB1 := hB1.below hb
      clear hb c0 c1
      obtain ⟨c0, c1, -, -⟩ := hp.two
    · go_wp2
      go_ret2
      exact ⟨by rw [tripTime_no2 H2.out]; rfl, ht⟩
    · go_wp2_with fail
      refine (paTime_any A B n c m d xs l s _ hA1 HX.out hB1 HY.out hm hn (trip_steps H2.out)).mono ?_
      rintro e w3 ⟨rfl, hb⟩
      go_wp2
      go_ret2
      exact ⟨by rw [tripTime_yes H1.out H2.out]; rfl, below_then ht hb ht.size⟩

set_option maxHeartbeats 800000 in
theorem implTripTime_any (A B : Option Addr) (n c m d : Nat) (xs l : List Int) (s : Int) (w : World) (hA : Holds w A (nums xs)) (hB : Holds w B (nums l)) (hx : xs.length = n) (hy : l.length = m) (hn : n ≤ 9223372036854775807) (hm : m ≤ 9223372036854775807) :
    Calls Try.prog 35 #[.agg #[.slice A n c, .int .i64 s], .slice B m d] w fun e w' => e = .returned (.tuple #[.int .i64 (tripTime xs n s l), .bool (isParty xs s && isTrip n s l)]) ∧ Below w.heap.size w w' := by
  have HX := Lib.hid hx
  have HY := Lib.hid hy
  have hp := Whole.fresh w 26 #[.slice A n c, .int .i64 s]
  have hA1 := hA.alloc (.cells #[.slice A n c, .int .i64 s] 26)
  have hB1 := hB.alloc (.cells #[.slice A n c, .int .i64 s] 26)
  cases h1 : isParty xs s
  · have H1 := Lib.hid h1
    clear h1 hx hy
    go_enter Try.func35, Try.ntmps35
    go_wp2_with fail
    refine (isParty_any A n c xs s _ hA1 HX.out hn).mono ?_
    rintro e w1 ⟨rfl, hb⟩
    rw [H1.out]
    go_wp2
    go_ret2
    exact ⟨by rw [tripTime_no1 H1.out]; rfl, below_then (below1 w _) hb (by simp)⟩
  · have H1 := Lib.hid h1
    have h8 : n ≤ 8 := by have := isParty_le h1; omega
    clear h1 hx hy
    go_enter Try.func35, Try.ntmps35
    go_wp2_with fail
    refine (isParty_any A n c xs s _ hA1 HX.out hn).mono ?_
    rintro e w1 ⟨rfl, hb⟩
    rw [H1.out]
    have ht := below_then (below1 w _) hb (by simp)
    replace hp := hp.below hb
    replace hA1 := hA1.below hb
    replace hB1 := hB1.below hb
    obtain ⟨c0, c1, -, -⟩ := hp.two
    clear hb
    go_wp2_with fail
    refine (crowdOf_any B n m d l s _ hB1 HY.out hm h8).mono ?_
    rintro e w2 ⟨⟨h2, rfl⟩ | ⟨h2, rfl⟩, hb⟩
    · have H2 := Lib.hid h2
      have hs := Lib.hid (slow_same (xs := xs) (trip_steps h2))
      replace ht := below_then ht hb ht.size
      replace hp := hp.below hb
      replace hA1 := (hA1.below hb).alloc (.cells (crowdCells l) 90)
      clear hb c0 c1 h2
      obtain ⟨c0, c1, -, -⟩ := hp.two
      have hlp := hp.lt
      unfold crowdCells
      go_wp2_with fail
      refine (slowest_any A n c xs l _ hA1 HX.out h8).mono ?_
      rintro e w3 ⟨rfl, hb⟩
      rw [hs.out]
      go_wp2
      go_ret2
      exact ⟨by rw [tripTime_yes H1.out H2.out, H2.out]; rfl, below_then (ht.alloc ht.size _) hb (by simp; have := ht.size; omega)⟩
    · have H2 := Lib.hid h2
      clear h2
      unfold crowdCells
      go_wp2
      go_ret2
      exact ⟨by rw [tripTime_no2 H2.out, H2.out]; rfl, (below_then ht hb ht.size).alloc (Nat.le_trans ht.size hb.size) _⟩
end Go.Proofs.Ythhlfbcgmpappaa
