/-
  What is proved: contracts of SavedTime, of the model and of the program. Conditions: the times are read as they lie.
-/
import Derived.Test.YtpefgleipjjneaaPairS
import Derived.Test.YtpefgleipjjneaaPaCross
import Derived.Test.YtpefgleipjjneaaSubsI
namespace Go.Proofs.Ytpefgleipjjneaa
open Go.RowKit

/-- Are there times, and is k a person? -/
def prWho (xs : List Int) (k : Int) : Bool := prOk xs && within k 0 ((xs.length : Int) - 1)
/-- The least times with and without person k's time changed; 0 where one of them is none. -/
def savedOk (xs : List Int) (k t : Int) : Bool := prWho xs k && prOk (xs.set k.toNat t)
def savedV (xs : List Int) (k t : Int) : Int := if savedOk xs k t then timeT (prTs true xs) - timeT (prTs true (xs.set k.toNat t)) else 0
theorem savedV_no {xs : List Int} {k t : Int} (h : savedOk xs k t = false) : savedV xs k t = 0 := if_neg (by simp [h])
theorem savedV_yes {xs : List Int} {k t : Int} (h : savedOk xs k t = true) : savedV xs k t = timeT (prTs true xs) - timeT (prTs true (xs.set k.toNat t)) := if_pos h
theorem prOk_put {xs : List Int} {k : Nat} {t : Int} (h : prOk xs = true) (h1 : 1 ≤ t) (h2 : t ≤ 1000) : prOk (xs.set k t) = true := by
  obtain ⟨a, b, c⟩ := prOk_parts h
  refine prOk_all (by simpa using a) (by simpa using b) fun j hj => ?_
  rw [List.getElem_set]
  split
  · exact ⟨h1, h2⟩
  · exact c _ (List.getElem_mem _)
theorem some_of_ok {w : World} {A : Option Addr} {xs : List Int} (hA : Holds w A (nums xs)) (h : prOk xs = true) : A ≠ none := by
  rintro rfl
  rcases hA with h0 | ⟨b, o, h0, -⟩
  · have h1 := congrArg List.length h0
    have := (prOk_parts h).1
    rw [nums_len, List.length_nil] at h1
    omega
  · cases h0

set_option maxHeartbeats 800000 in
theorem prPerson_any (A : Option Addr) (n c : Nat) (xs : List Int) (k : Int) (w : World) (hA : Holds w A (nums xs)) (hx : xs.length = n) (hn : n ≤ 9223372036854775807) :
    Calls Try.prog 17 #[.slice A n c, .int .i64 k] w fun e w' => e = .returned (.bool (prWho xs k)) ∧ w = w' := by
  have HX := Lib.hid hx
  cases h1 : prOk xs
  · have HW := Lib.hid h1
    have HP : Hid (prWho xs k = false) := by show _ = _; rw [prWho, h1]; rfl
    clear hx h1
    go_enter Try.func17, Try.ntmps17
    go_wp2_with (go_at_call 11; refine (prGood_any A n c xs _ hA HX.out hn).mono ?_; rintro e w' ⟨rfl, rfl⟩; rw [HW.out])
    go_ret
    exact ⟨ret_of (by rw [HP.out]; rfl), rfl⟩
  · have HW := Lib.hid h1
    have HP : Hid (prWho xs k = within k 0 ((n : Int) - 1)) := by show _ = _; rw [prWho, hx, h1]; rfl
    have hwn : IntKind.i64.wrap ((n : Int) - 1) = (n : Int) - 1 := IntWalk.i64_in _ (by omega)
    clear hx h1
    go_enter Try.func17, Try.ntmps17
    go_wp2_with (first | (go_at_call 11; refine (prGood_any A n c xs _ hA HX.out hn).mono ?_; rintro e w' ⟨rfl, rfl⟩; rw [HW.out]) | (go_at_call 12; refine (l1In_any _ _ _ _).mono ?_; rintro e w' ⟨rfl, rfl⟩))
    go_ret
    exact ⟨ret_of (by rw [HP.out]; rfl), rfl⟩

set_option maxHeartbeats 1600000 in
theorem prWith_any (A : Option Addr) (n c k : Nat) (xs : List Int) (t : Int) (w : World) (hA : Holds w A (nums xs)) (hx : xs.length = n) (hk : k < n) (hp : prOk xs = true) (hq : prOk (xs.set k t) = true) :
    Calls Try.prog 18 #[.slice A n c, .int .i64 k, .int .i64 t] w fun e w' => e = .returned (.int .i64 (timeT (prTs true (xs.set k t)))) ∧ Below w.heap.size w w' := by
  have HX := Lib.hid hx
  have HQ := Lib.hid hq
  have hn12 := (prOk_parts hp).2.1
  have hne := some_of_ok hA hp
  clear hp hq
  go_enter Try.func18, Try.ntmps18
  go_wp2_with fail
  refine (l1Own_any A n c xs _ hA HX.out (by omega) (fun h => absurd h hne)).mono ?_
  rintro e w1 ⟨G, q, rfl, hown, hb⟩
  obtain ⟨g, u, rfl, hg, hg', hgl, hcell, hfr, hset⟩ := (own_fresh1 hown).turn (k := k) (by rw [nums_len]; omega)
  rw [hx]
  have HF : Hid (Holds (w1.setCell ⟨g, k, none⟩ (.int .i64 t)) (some ⟨g, 0, none⟩) (nums (xs.set k t))) := by
    show Holds _ _ _
    have h := (hset (.int .i64 t)).holds
    simpa [nums, List.map_set] using h
  have HB := Lib.hid (below_set (o := k) (u := .int .i64 t) hb hg)
  have HSL : Hid ((xs.set k t).length = n) := by show _ = _; simpa using hx
  clear hown hb hset hx hne
  go_wp2_with fail
  refine (prTime_any (some ⟨g, 0, none⟩) n q (xs.set k t) _ HF.out HSL.out HQ.out).mono ?_
  rintro e w2 ⟨rfl, hb⟩
  have HB2 := Lib.hid (below_then HB.out hb HB.out.size)
  clear hb
  go_wp2
  go_ret
  exact ⟨rfl, HB2.out⟩

set_option maxHeartbeats 1600000 in
theorem savedWith_any (A : Option Addr) (n c : Nat) (xs : List Int) (k t : Int) (w : World) (hA : Holds w A (nums xs)) (hx : xs.length = n) (hn : n ≤ 9223372036854775807) :
    Calls Try.prog 19 #[.slice A n c, .int .i64 k, .int .i64 t] w fun e w' => e = .returned (.tuple #[.int .i64 (savedV xs k t), .bool (savedOk xs k t)]) ∧ Below w.heap.size w w' := by
  have HX := Lib.hid hx
  cases hok : prOk xs
  · have HOK := Lib.hid hok
    have HO : Hid (savedOk xs k t = false) := by show _ = _; rw [savedOk, prWho, hok]; rfl
    clear hok hx
    go_enter Try.func19, Try.ntmps19
    go_wp2_with fail
    refine (implPairTime_any A n c xs _ hA HX.out hn).mono ?_
    rintro e w1 ⟨rfl, hb⟩
    rw [HOK.out]
    have HB := Lib.hid hb
    clear hb
    go_wp2
    go_ret2
    exact ⟨by rw [savedV_no HO.out, HO.out]; rfl, HB.out⟩
  have HOK := Lib.hid hok
  by_cases h0 : k < 0
  · have HO : Hid (savedOk xs k t = false) := by show _ = _; rw [savedOk, prWho, within_no (.inl h0), Bool.and_false]; rfl
    clear hok hx
    go_enter Try.func19, Try.ntmps19
    go_wp2_with fail
    refine (implPairTime_any A n c xs _ hA HX.out hn).mono ?_
    rintro e w1 ⟨rfl, hb⟩
    rw [HOK.out]
    have HB := Lib.hid hb
    clear hb
    go_wp2
    go_ret2
    exact ⟨by rw [savedV_no HO.out, HO.out]; rfl, HB.out⟩
  obtain ⟨m, rfl⟩ : ∃ m : Nat, k = m := ⟨k.toNat, by omega⟩
  have hk0 : decide ((m : Int) < 0) = false := by simp
  by_cases hmn : n ≤ m
  · have HO : Hid (savedOk xs (m : Int) t = false) := by show _ = _; rw [savedOk, prWho, within_no (.inr (by omega)), Bool.and_false]; rfl
    have hkk : decide (n ≤ m) = true := by simp; omega
    have hki : decide ((n : Int) ≤ (m : Int)) = true := by simp; omega
    clear hok hx h0
    go_enter Try.func19, Try.ntmps19
    go_wp2_with fail
    refine (implPairTime_any A n c xs _ hA HX.out hn).mono ?_
    rintro e w1 ⟨rfl, hb⟩
    rw [HOK.out]
    have HB := Lib.hid hb
    clear hb
    go_wp2
    go_ret2
    exact ⟨by rw [savedV_no HO.out, HO.out]; rfl, HB.out⟩
  have hmn' : m < n := by omega
  have hkk : decide (n ≤ m) = false := by simp; omega
  have hki : decide ((n : Int) ≤ (m : Int)) = false := by simp; omega
  have HWH : Hid (prWho xs (m : Int) = true) := by show _ = _; rw [prWho, hok, within_yes (by omega) (by omega)]; rfl
  have hn12 := (prOk_parts hok).2.1
  have hne := some_of_ok hA hok
  have hv1 := prTs_bd true xs
  have hv2 := prTs_bd true (xs.set m t)
  have hwr : IntKind.i64.wrap (timeT (prTs true xs) - timeT (prTs true (xs.set m t))) = timeT (prTs true xs) - timeT (prTs true (xs.set m t)) := IntWalk.i64_in _ (by omega)
  clear hok h0 hv1 hv2
  go_enter Try.func19, Try.ntmps19
  go_wp2_with fail
  refine (implPairTime_any A n c xs _ hA HX.out hn).mono ?_
  rintro e w1 ⟨rfl, hb⟩
  rw [HOK.out]
  have HB := Lib.hid hb
  have hA1 := hA.below hb
  clear hb
  go_wp2_with fail
  refine (cloneO_any A n c xs _ hA1 HX.out (by omega) (fun h => absurd h hne)).mono ?_
  rintro e w2 ⟨G, q, rfl, hown, hb⟩
  obtain ⟨g, u, rfl, hg, hg', hgl, hcell, hfr, hset⟩ := (own_fresh1 hown).turn (k := m) (by rw [nums_len]; omega)
  rw [hx]
  have HF : Hid (Holds (w2.setCell ⟨g, m, none⟩ (.int .i64 t)) (some ⟨g, 0, none⟩) (nums (xs.set m t))) := by
    show Holds _ _ _
    have h := (hset (.int .i64 t)).holds
    simpa [nums, List.map_set] using h
  have HB2 := Lib.hid (below_set (o := m) (u := .int .i64 t) (below_then HB.out hb HB.out.size) (Nat.le_trans HB.out.size hg))
  have HSL : Hid ((xs.set m t).length = n) := by show _ = _; simpa using hx
  clear hown hb hset hx hne hA1
  go_wp2_with fail
  refine (implPairTime_any (some ⟨g, 0, none⟩) n q (xs.set m t) _ HF.out HSL.out hn).mono ?_
  rintro e w3 ⟨rfl, hb⟩
  have HB3 := Lib.hid (below_then HB2.out hb HB2.out.size)
  clear hb
  cases hq : prOk (xs.set m t)
  · have HO : Hid (savedOk xs (m : Int) t = false) := by show _ = _; rw [savedOk, Int.toNat_natCast, hq, Bool.and_false]
    clear hq
    go_wp2
    go_ret2
    exact ⟨by rw [savedV_no HO.out, HO.out]; rfl, HB3.out⟩
  · have HO : Hid (savedOk xs (m : Int) t = true) := by show _ = _; rw [savedOk, Int.toNat_natCast, hq, HWH.out]; rfl
    have HV : Hid (savedV xs (m : Int) t = timeT (prTs true xs) - timeT (prTs true (xs.set m t))) := savedV_yes HO.out
    clear hq
    go_wp2
    go_ret2
    exact ⟨by rw [HV.out, HO.out]; rfl, HB3.out⟩

end Go.Proofs.Ytpefgleipjjneaa
