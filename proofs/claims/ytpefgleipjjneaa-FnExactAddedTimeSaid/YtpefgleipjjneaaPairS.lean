/-
  What is proved: contracts of PairTime, of the model and of the program. Conditions: the times are read as they lie.
-/
import Derived.Test.YtpefgleipjjneaaPrSum
import Derived.Test.YtpefgleipjjneaaPairI
namespace Go.Proofs.Ytpefgleipjjneaa
open Go.RowKit

theorem own_holdsK {w : World} {base size : Nat} {e : TypeId} {T : Option Addr} {n c : Nat} {xs : List Value} (h : w.ownsRow base e size (.slice T n c) n xs) : Holds w T xs := by
  obtain ⟨hl, ⟨-, hn⟩ | ⟨g, cap, cur, hv, -, hh, h1, h2, h3, h4⟩⟩ := h
  · subst hn
    exact .inl (List.eq_nil_of_length_eq_zero (by simpa using hl))
  · obtain ⟨rfl, -⟩ : T = some ⟨g, 0, none⟩ ∧ c = cap := by simpa using hv
    have hw : Whole w g e cur := hh
    refine .inr ⟨g, 0, rfl, hw.lt, fun j u hu => ?_⟩
    have hj : j < xs.length := (List.getElem?_eq_some_iff.1 hu).1
    rw [Nat.zero_add, hw.cell j, ← hu]
    rw [hl] at hj
    have := congrArg (fun l : List Value => l[j]?) h4
    simpa [List.getElem?_take, hj] using this
theorem prTs_time_no {f : Bool} {xs : List Int} (h : prOk xs = false) : timeT (prTs f xs) = 0 := by rw [prTs_no h]; rfl
theorem prTs_bd (f : Bool) (xs : List Int) : 0 ≤ timeT (prTs f xs) ∧ timeT (prTs f xs) ≤ 24000 := by
  have h1 := timeT_bd (ts := prTs f xs) prTs_mild
  have h2 := prTs_len f xs
  omega
theorem prTrips_at (A : Option Addr) (n c : Nat) (xs : List Int) (e : Bool) (w : World) (hA : Holds w A (nums xs)) (hx : xs.length = n) (hp : prOk xs = true) :
    Calls Try.prog 21 #[.slice A n c, .bool e] w (PrPost ((prTs (!e) xs).map listT) (signsT (!e) (mk xs (ord xs)) xs.length) (evenT (mk xs (ord xs)) xs.length) w) := by
  have h := prTrips_any A n c xs e w hA hx hp
  rw [prTs_yes hp, hx]
  exact h
theorem prSum_at (A D : Option Addr) (n c z : Nat) (xs : List Int) (f : Bool) (rs : List RowV) (w : World) (hA : Holds w A (nums xs)) (hD : Grid w D rs) (hx : xs.length = n) (hp : prOk xs = true) (hr : rowNums rs = (prTs f xs).map listT) :
    Calls Try.prog 22 #[.slice A n c, .slice D rs.length z] w fun e w' => e = .returned (.int .i64 (timeT (prTs f xs))) ∧ Below w.heap.size w w' := by
  have hm := (prOk_parts hp).2.2
  have hl : rs.length ≤ 24 := by
    have h1 := congrArg List.length hr
    rw [rowNums_len, List.length_map] at h1
    have := prTs_len f xs
    omega
  have h := prSum_any A D n c rs.length z xs rs w hA hD hx rfl (by have := (prOk_parts hp).2.1; omega) (by omega) hm (by rw [hr]; exact all_trips hx prTs_ok)
  rw [hr, sum_trips prTs_ok hm] at h
  exact h

set_option maxHeartbeats 1600000 in
theorem prTime_any (A : Option Addr) (n c : Nat) (xs : List Int) (w : World) (hA : Holds w A (nums xs)) (hx : xs.length = n) (hp : prOk xs = true) :
    Calls Try.prog 13 #[.slice A n c] w fun e w' => e = .returned (.int .i64 (timeT (prTs true xs))) ∧ Below w.heap.size w w' := by
  have HX := Lib.hid hx
  have HP := Lib.hid hp
  clear hx hp
  go_enter Try.func13, Try.ntmps13
  go_wp2_with fail
  refine (prTrips_at A n c xs false _ hA HX.out HP.out).mono ?_
  rintro e w1 ⟨E, d, rs, rfl, hr, hh, hb⟩
  have HR := Lib.hid hr
  have hG := hh.free.grid
  have HB := Lib.hid hb
  have hA1 := hA.below hb
  clear hr hh hb
  go_wp2_with fail
  refine (prSum_at A E n c d xs true rs _ hA1 hG HX.out HP.out HR.out).mono ?_
  rintro e w2 ⟨rfl, hb⟩
  have HB2 := Lib.hid (below_then HB.out hb HB.out.size)
  clear hb hG
  go_wp2
  go_ret
  exact ⟨rfl, HB2.out⟩

set_option maxHeartbeats 1600000 in
theorem implPairTime_any (A : Option Addr) (n c : Nat) (xs : List Int) (w : World) (hA : Holds w A (nums xs)) (hx : xs.length = n) (hn : n ≤ 9223372036854775807) :
    Calls Try.prog 15 #[.slice A n c] w fun e w' => e = .returned (.tuple #[.int .i64 (timeT (prTs true xs)), .bool (prOk xs)]) ∧ Below w.heap.size w w' := by
  have HX := Lib.hid hx
  clear hx
  go_enter Try.func15, Try.ntmps15
  go_wp2_with fail
  refine (pairTrips_any A n c xs true _ hA HX.out hn).mono ?_
  rintro e w1 ⟨E, d, rfl, hown, hb⟩
  have hl := prTs_len true xs
  have HM := Lib.hid (prTs_mild (f := true) (xs := xs))
  generalize hte : prTs true xs = ts at hown hl HM ⊢
  have HTE := Lib.hid hte
  clear hte
  have HO := Lib.hid (own_holdsK hown)
  have HB := Lib.hid hb
  clear hown hb
  go_wp2_with fail
  refine (timeOfTrips_any E ts.length d ts _ HO.out rfl hl HM.out).mono ?_
  rintro e w2 ⟨rfl, hb⟩
  have HB2 := Lib.hid (below_then HB.out hb HB.out.size)
  clear hb
  go_wp2
  go_ret2
  rw [HTE.out]
  exact ⟨rfl, HB2.out⟩

end Go.Proofs.Ytpefgleipjjneaa
