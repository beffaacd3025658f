/-
  What is proved: contracts of PairTime, EscortTime, PairPlan, EscortPlan and PairGain, of the model and of the program. Conditions: the times are read as they lie.
-/
import Derived.Test.YtgcobhnodjfgiaaPrSum
import Derived.Test.YtgcobhnodjfgiaaPairL
namespace Go.Proofs.Ytgcobhnodjfgiaa
open Go.RowKit

theorem own_holdsK {w : World} {base size : Nat} {e : TypeId} {T : Option Addr} {n c : Nat} {xs : List Value} (h : w.ownsRow base e size (.slice T n c) n xs) : Holds w T xs := by
  obtain ⟨hl, ⟨-, hn⟩ | ⟨g, cap, cur, hv, -, hh, h1, h2, h3, h4⟩⟩ := h
  · subst hn
    exact .inl (List.eq_nil_of_length_eq_zero (by simpa using hl))
  · obtain ⟨rfl, -⟩ : T = some ⟨g, 0, none⟩ ∧ c = cap := by simpa using hv
    have hw : Whole w g e cur := hh
    refine .inr ⟨g, 0, rfl, hw.lt, fun j u hu => ?_⟩
    have hj : j < xs.length := (List.getElem?_eq_some_iff.1 hu).1
    rw [Nat.zero_add, hw.cell j, ← hu]
    rw [hl] at hj
    have := congrArg (fun l : List Value => l[j]?) h4
    simpa [List.getElem?_take, hj] using this
theorem prTs_time_no {f : Bool} {xs : List Int} (h : prOk xs = false) : timeT (prTs f xs) = 0 := by rw [prTs_no h]; rfl
theorem prTs_bd (f : Bool) (xs : List Int) : 0 ≤ timeT (prTs f xs) ∧ timeT (prTs f xs) ≤ 24000 := by
  have h1 := timeT_bd (ts := prTs f xs) prTs_mild
  have h2 := prTs_len f xs
  omega
theorem prTrips_at (A : Option Addr) (n c : Nat) (xs : List Int) (e : Bool) (w : World) (hA : Holds w A (nums xs)) (hx : xs.length = n) (hp : prOk xs = true) :
    Calls Try.prog 68 #[.slice A n c, .bool e] w (PrPost ((prTs (!e) xs).map listT) (signsT (!e) (mk xs (ord xs)) xs.length) (evenT (mk xs (ord xs)) xs.length) w) := by
  have h := prTrips_any A n c xs e w hA hx hp
  rw [prTs_yes hp, hx]
  exact h
theorem prSum_at (A D : Option Addr) (n c z : Nat) (xs : List Int) (f : Bool) (rs : List RowV) (w : World) (hA : Holds w A (nums xs)) (hD : Grid w D rs) (hx : xs.length = n) (hp : prOk xs = true) (hr : rowNums rs = (prTs f xs).map listT) :
    Calls Try.prog 75 #[.slice A n c, .slice D rs.length z] w fun e w' => e = .returned (.int .i64 (timeT (prTs f xs))) ∧ Below w.heap.size w w' := by
  have hm := (prOk_parts hp).2.2
  have hl : rs.length ≤ 24 := by
    have h1 := congrArg List.length hr
    rw [rowNums_len, List.length_map] at h1
    have := prTs_len f xs
    omega
  have h := prSum_any A D n c rs.length z xs rs w hA hD hx rfl (by have := (prOk_parts hp).2.1; omega) (by omega) hm (by rw [hr]; exact all_trips hx prTs_ok)
  rw [hr, sum_trips prTs_ok hm] at h
  exact h

set_option maxHeartbeats 1600000 in
theorem prTime_any (A : Option Addr) (n c : Nat) (xs : List Int) (w : World) (hA : Holds w A (nums xs)) (hx : xs.length = n) (hp : prOk xs = true) :
    Calls Try.prog 65 #[.slice A n c] w fun e w' => e = .returned (.int .i64 (timeT (prTs true xs))) ∧ Below w.heap.size w w' := by
  have HX := Lib.hid hx
  have HP := Lib.hid hp
  clear hx hp
  go_enter Try.func65, Try.ntmps65
  go_wp2_with fail
  refine (prTrips_at A n c xs false _ hA HX.out HP.out).mono ?_
  rintro e w1 ⟨E, d, rs, rfl, hr, hh, hb⟩
  have HR := Lib.hid hr
  have hG := hh.free.grid
  have HB := Lib.hid hb
  have hA1 := hA.below hb
  clear hr hh hb
  go_wp2_with fail
  refine (prSum_at A E n c d xs true rs _ hA1 hG HX.out HP.out HR.out).mono ?_
  rintro e w2 ⟨rfl, hb⟩
  have HB2 := Lib.hid (below_then HB.out hb HB.out.size)
  clear hb hG
  go_wp2
  go_ret
  exact ⟨rfl, HB2.out⟩

set_option maxHeartbeats 1600000 in
theorem specPairTime_any (A : Option Addr) (n c : Nat) (xs : List Int) (w : World) (hA : Holds w A (nums xs)) (hx : xs.length = n) (hn : n ≤ 9223372036854775807) :
    Calls Try.prog 28 #[.slice A n c] w fun e w' => e = .returned (.tuple #[.int .i64 (timeT (prTs true xs)), .bool (prOk xs)]) ∧ Below w.heap.size w w' := by
  have HX := Lib.hid hx
  clear hx
  cases hp : prOk xs
  · have HP := Lib.hid hp
    clear hp
    go_enter Try.func28, Try.ntmps28
    go_wp2_with (go_at_call 64; refine (prGood_any A n c xs _ hA HX.out hn).mono ?_; rintro e w' ⟨rfl, rfl⟩; rw [HP.out])
    go_ret2
    exact ⟨by rw [prTs_time_no HP.out]; rfl, Below.refl _ _⟩
  · have HP := Lib.hid hp
    clear hp
    go_enter Try.func28, Try.ntmps28
    go_wp2_with (go_at_call 64; refine (prGood_any A n c xs _ hA HX.out hn).mono ?_; rintro e w' ⟨rfl, rfl⟩; rw [HP.out])
    refine (prTime_any A n c xs _ hA HX.out HP.out).mono ?_
    rintro e w2 ⟨rfl, hb⟩
    go_wp2
    go_ret2
    exact ⟨rfl, hb⟩

set_option maxHeartbeats 1600000 in
theorem implPairTime_any (A : Option Addr) (n c : Nat) (xs : List Int) (w : World) (hA : Holds w A (nums xs)) (hx : xs.length = n) (hn : n ≤ 9223372036854775807) :
    Calls Try.prog 30 #[.slice A n c] w fun e w' => e = .returned (.tuple #[.int .i64 (timeT (prTs true xs)), .bool (prOk xs)]) ∧ Below w.heap.size w w' := by
  have HX := Lib.hid hx
  clear hx
  go_enter Try.func30, Try.ntmps30
  go_wp2_with fail
  refine (pairTrips_any A n c xs true _ hA HX.out hn).mono ?_
  rintro e w1 ⟨E, d, rfl, hown, hb⟩
  have hl := prTs_len true xs
  have HM := Lib.hid (prTs_mild (f := true) (xs := xs))
  generalize hte : prTs true xs = ts at hown hl HM ⊢
  have HTE := Lib.hid hte
  clear hte
  have HO := Lib.hid (own_holdsK hown)
  have HB := Lib.hid hb
  clear hown hb
  go_wp2_with fail
  refine (timeOfTrips_any E ts.length d ts _ HO.out rfl hl HM.out).mono ?_
  rintro e w2 ⟨rfl, hb⟩
  have HB2 := Lib.hid (below_then HB.out hb HB.out.size)
  clear hb
  go_wp2
  go_ret2
  rw [HTE.out]
  exact ⟨rfl, HB2.out⟩

set_option maxHeartbeats 1600000 in
theorem specEscortTime_any (A : Option Addr) (n c : Nat) (xs : List Int) (w : World) (hA : Holds w A (nums xs)) (hx : xs.length = n) (hn : n ≤ 9223372036854775807) :
    Calls Try.prog 37 #[.slice A n c] w fun e w' => e = .returned (.tuple #[.int .i64 (timeT (prTs false xs)), .bool (prOk xs)]) ∧ Below w.heap.size w w' := by
  have HX := Lib.hid hx
  clear hx
  cases hp : prOk xs
  · have HP := Lib.hid hp
    clear hp
    go_enter Try.func37, Try.ntmps37
    go_wp2_with (go_at_call 64; refine (prGood_any A n c xs _ hA HX.out hn).mono ?_; rintro e w' ⟨rfl, rfl⟩; rw [HP.out])
    go_ret2
    exact ⟨by rw [prTs_time_no HP.out]; rfl, Below.refl _ _⟩
  · have HP := Lib.hid hp
    clear hp
    go_enter Try.func37, Try.ntmps37
    go_wp2_with (go_at_call 64; refine (prGood_any A n c xs _ hA HX.out hn).mono ?_; rintro e w' ⟨rfl, rfl⟩; rw [HP.out])
    refine (prTrips_at A n c xs true _ hA HX.out HP.out).mono ?_
    rintro e w1 ⟨E, d, rs, rfl, hr, hh, hb⟩
    have HR := Lib.hid hr
    have hG := hh.free.grid
    have HB := Lib.hid hb
    have hA1 := hA.below hb
    clear hr hh hb
    go_wp2_with fail
    refine (prSum_at A E n c d xs false rs _ hA1 hG HX.out HP.out HR.out).mono ?_
    rintro e w2 ⟨rfl, hb⟩
    have HB2 := Lib.hid (below_then HB.out hb HB.out.size)
    clear hb hG
    go_wp2
    go_ret2
    exact ⟨rfl, HB2.out⟩

set_option maxHeartbeats 1600000 in
theorem implEscortTime_any (A : Option Addr) (n c : Nat) (xs : List Int) (w : World) (hA : Holds w A (nums xs)) (hx : xs.length = n) (hn : n ≤ 9223372036854775807) :
    Calls Try.prog 38 #[.slice A n c] w fun e w' => e = .returned (.tuple #[.int .i64 (timeT (prTs false xs)), .bool (prOk xs)]) ∧ Below w.heap.size w w' := by
  have HX := Lib.hid hx
  clear hx
  go_enter Try.func38, Try.ntmps38
  go_wp2_with fail
  refine (pairTrips_any A n c xs false _ hA HX.out hn).mono ?_
  rintro e w1 ⟨E, d, rfl, hown, hb⟩
  have hl := prTs_len false xs
  have HM := Lib.hid (prTs_mild (f := false) (xs := xs))
  generalize hte : prTs false xs = ts at hown hl HM ⊢
  have HTE := Lib.hid hte
  clear hte
  have HO := Lib.hid (own_holdsK hown)
  have HB := Lib.hid hb
  clear hown hb
  go_wp2_with fail
  refine (timeOfTrips_any E ts.length d ts _ HO.out rfl hl HM.out).mono ?_
  rintro e w2 ⟨rfl, hb⟩
  have HB2 := Lib.hid (below_then HB.out hb HB.out.size)
  clear hb
  go_wp2
  go_ret2
  rw [HTE.out]
  exact ⟨rfl, HB2.out⟩

set_option maxHeartbeats 1600000 in
theorem specPairPlan_any (A : Option Addr) (n c : Nat) (xs : List Int) (w : World) (hA : Holds w A (nums xs)) (hx : xs.length = n) (hn : n ≤ 9223372036854775807) :
    Calls Try.prog 32 #[.slice A n c] w (BackPost ((prTs true xs).map listT) (prOk xs) w) := by
  have HX := Lib.hid hx
  clear hx
  cases hp : prOk xs
  · have HP := Lib.hid hp
    clear hp
    go_enter Try.func32, Try.ntmps32
    go_wp2_with (go_at_call 64; refine (prGood_any A n c xs _ hA HX.out hn).mono ?_; rintro e w' ⟨rfl, rfl⟩; rw [HP.out])
    go_ret2
    rw [prTs_no HP.out]
    exact BackPost.no (Below.refl _ _)
  · have HP := Lib.hid hp
    clear hp
    go_enter Try.func32, Try.ntmps32
    go_wp2_with (go_at_call 64; refine (prGood_any A n c xs _ hA HX.out hn).mono ?_; rintro e w' ⟨rfl, rfl⟩; rw [HP.out])
    refine (prTrips_at A n c xs false _ hA HX.out HP.out).mono ?_
    rintro e w1 ⟨E, d, rs, rfl, hr, hh, hb⟩
    have HR := Lib.hid hr
    have HH := Lib.hid hh
    clear hr hh
    go_wp2
    go_ret2
    exact ⟨E, rs.length, d, rs, rfl, HR.out, rfl, HH.out.free, hb⟩

set_option maxHeartbeats 1600000 in
theorem implPairPlan_any (A : Option Addr) (n c : Nat) (xs : List Int) (w : World) (hA : Holds w A (nums xs)) (hx : xs.length = n) (hn : n ≤ 9223372036854775807) :
    Calls Try.prog 33 #[.slice A n c] w (BackPost ((prTs true xs).map listT) (prOk xs) w) := by
  have HX := Lib.hid hx
  clear hx
  go_enter Try.func33, Try.ntmps33
  go_wp2_with fail
  refine (pairTrips_any A n c xs true _ hA HX.out hn).mono ?_
  rintro e w1 ⟨E, d, rfl, hown, hb⟩
  have hl := prTs_len true xs
  generalize hte : prTs true xs = ts at hown hl ⊢
  have HTE := Lib.hid hte
  clear hte
  have HO := Lib.hid (own_holdsK hown)
  have HB := Lib.hid hb
  clear hown hb
  go_wp2_with fail
  refine (listsOfTrips_any E ts.length d ts _ HO.out rfl hl).mono ?_
  rintro e w2 ⟨G, r, rs, rfl, hr, -, -, hh, hb⟩
  have HR := Lib.hid hr
  have HH := Lib.hid (hh.raise HB.out.size)
  have HB2 := Lib.hid (below_then HB.out hb HB.out.size)
  clear hr hh hb
  go_wp2
  go_ret2
  rw [HTE.out]
  exact ⟨G, rs.length, r, rs, rfl, HR.out, rfl, HH.out.free, HB2.out⟩

theorem pairplan_le (xs : List Int) : ((prTs true xs).map listT).length ≤ 1048576 ∧ (((prTs true xs).map listT).map List.length).sum ≤ 1048576 := by
  have hl := prTs_len true xs
  have h := sum_lens (ls := (prTs true xs).map listT) (k := 2) fun l hl => by
    obtain ⟨t, -, rfl⟩ := List.mem_map.1 hl
    unfold listT
    split <;> simp
  rw [List.length_map] at h ⊢
  omega

set_option maxHeartbeats 1600000 in
theorem specEscortPlan_any (A : Option Addr) (n c : Nat) (xs : List Int) (w : World) (hA : Holds w A (nums xs)) (hx : xs.length = n) (hn : n ≤ 9223372036854775807) :
    Calls Try.prog 39 #[.slice A n c] w (BackPost ((prTs false xs).map listT) (prOk xs) w) := by
  have HX := Lib.hid hx
  clear hx
  cases hp : prOk xs
  · have HP := Lib.hid hp
    clear hp
    go_enter Try.func39, Try.ntmps39
    go_wp2_with (go_at_call 64; refine (prGood_any A n c xs _ hA HX.out hn).mono ?_; rintro e w' ⟨rfl, rfl⟩; rw [HP.out])
    go_ret2
    rw [prTs_no HP.out]
    exact BackPost.no (Below.refl _ _)
  · have HP := Lib.hid hp
    clear hp
    go_enter Try.func39, Try.ntmps39
    go_wp2_with (go_at_call 64; refine (prGood_any A n c xs _ hA HX.out hn).mono ?_; rintro e w' ⟨rfl, rfl⟩; rw [HP.out])
    refine (prTrips_at A n c xs true _ hA HX.out HP.out).mono ?_
    rintro e w1 ⟨E, d, rs, rfl, hr, hh, hb⟩
    have HR := Lib.hid hr
    have HH := Lib.hid hh
    clear hr hh
    go_wp2
    go_ret2
    exact ⟨E, rs.length, d, rs, rfl, HR.out, rfl, HH.out.free, hb⟩

set_option maxHeartbeats 1600000 in
theorem implEscortPlan_any (A : Option Addr) (n c : Nat) (xs : List Int) (w : World) (hA : Holds w A (nums xs)) (hx : xs.length = n) (hn : n ≤ 9223372036854775807) :
    Calls Try.prog 40 #[.slice A n c] w (BackPost ((prTs false xs).map listT) (prOk xs) w) := by
  have HX := Lib.hid hx
  clear hx
  go_enter Try.func40, Try.ntmps40
  go_wp2_with fail
  refine (pairTrips_any A n c xs false _ hA HX.out hn).mono ?_
  rintro e w1 ⟨E, d, rfl, hown, hb⟩
  have hl := prTs_len false xs
  generalize hte : prTs false xs = ts at hown hl ⊢
  have HTE := Lib.hid hte
  clear hte
  have HO := Lib.hid (own_holdsK hown)
  have HB := Lib.hid hb
  clear hown hb
  go_wp2_with fail
  refine (listsOfTrips_any E ts.length d ts _ HO.out rfl hl).mono ?_
  rintro e w2 ⟨G, r, rs, rfl, hr, -, -, hh, hb⟩
  have HR := Lib.hid hr
  have HH := Lib.hid (hh.raise HB.out.size)
  have HB2 := Lib.hid (below_then HB.out hb HB.out.size)
  clear hr hh hb
  go_wp2
  go_ret2
  rw [HTE.out]
  exact ⟨G, rs.length, r, rs, rfl, HR.out, rfl, HH.out.free, HB2.out⟩

theorem escortplan_le (xs : List Int) : ((prTs false xs).map listT).length ≤ 1048576 ∧ (((prTs false xs).map listT).map List.length).sum ≤ 1048576 := by
  have hl := prTs_len false xs
  have h := sum_lens (ls := (prTs false xs).map listT) (k := 2) fun l hl => by
    obtain ⟨t, -, rfl⟩ := List.mem_map.1 hl
    unfold listT
    split <;> simp
  rw [List.length_map] at h ⊢
  omega

set_option maxHeartbeats 1600000 in
theorem specPairGain_any (A : Option Addr) (n c : Nat) (xs : List Int) (w : World) (hA : Holds w A (nums xs)) (hx : xs.length = n) (hn : n ≤ 9223372036854775807) :
    Calls Try.prog 41 #[.slice A n c] w fun e w' => e = .returned (.tuple #[.int .i64 (timeT (prTs false xs) - timeT (prTs true xs)), .bool (prOk xs)]) ∧ Below w.heap.size w w' := by
  have HX := Lib.hid hx
  clear hx
  cases hp : prOk xs
  · have HP := Lib.hid hp
    clear hp
    go_enter Try.func41, Try.ntmps41
    go_wp2_with (go_at_call 64; refine (prGood_any A n c xs _ hA HX.out hn).mono ?_; rintro e w' ⟨rfl, rfl⟩; rw [HP.out])
    go_ret2
    exact ⟨by rw [prTs_time_no HP.out, prTs_time_no HP.out]; rfl, Below.refl _ _⟩
  · have HP := Lib.hid hp
    clear hp
    go_enter Try.func41, Try.ntmps41
    go_wp2_with (go_at_call 64; refine (prGood_any A n c xs _ hA HX.out hn).mono ?_; rintro e w' ⟨rfl, rfl⟩; rw [HP.out])
    refine (prTrips_at A n c xs true _ hA HX.out HP.out).mono ?_
    rintro e w1 ⟨E, d, rs, rfl, hr, hh, hb⟩
    have HR := Lib.hid hr
    have hG := hh.free.grid
    have HB := Lib.hid hb
    have hA1 := hA.below hb
    have hbd1 := prTs_bd false xs
    have hbd2 := prTs_bd true xs
    obtain ⟨p1, p2⟩ := hbd1
    obtain ⟨p3, p4⟩ := hbd2
    clear hr hh hb
    go_wp2_with fail
    refine (prSum_at A E n c d xs false rs _ hA1 hG HX.out HP.out HR.out).mono ?_
    rintro e w2 ⟨rfl, hb⟩
    have HB2 := Lib.hid (below_then HB.out hb HB.out.size)
    have hA2 := hA1.below hb
    clear hb hG
    go_wp2_with fail
    refine (prTime_any A n c xs _ hA2 HX.out HP.out).mono ?_
    rintro e w3 ⟨rfl, hb⟩
    have HB3 := Lib.hid (below_then HB2.out hb HB2.out.size)
    clear hb
    go_wp2
    go_ret2
    exact ⟨rfl, HB3.out⟩

set_option maxHeartbeats 1600000 in
theorem implPairGain_any (A : Option Addr) (n c : Nat) (xs : List Int) (w : World) (hA : Holds w A (nums xs)) (hx : xs.length = n) (hn : n ≤ 9223372036854775807) :
    Calls Try.prog 42 #[.slice A n c] w fun e w' => e = .returned (.tuple #[.int .i64 (timeT (prTs false xs) - timeT (prTs true xs)), .bool (prOk xs)]) ∧ Below w.heap.size w w' := by
  have HX := Lib.hid hx
  obtain ⟨p1, p2⟩ := prTs_bd false xs
  obtain ⟨p3, p4⟩ := prTs_bd true xs
  clear hx
  go_enter Try.func42, Try.ntmps42
  go_wp2_with fail
  refine (implEscortTime_any A n c xs _ hA HX.out hn).mono ?_
  rintro e w1 ⟨rfl, hb⟩
  have hA1 := hA.below hb
  have HB := Lib.hid hb
  clear hb
  go_wp2_with fail
  refine (implPairTime_any A n c xs _ hA1 HX.out hn).mono ?_
  rintro e w2 ⟨rfl, hb⟩
  have HB2 := Lib.hid (below_then HB.out hb HB.out.size)
  clear hb
  go_wp2
  go_ret2
  exact ⟨rfl, HB2.out⟩
end Go.Proofs.Ytgcobhnodjfgiaa
