/-
  What is proved: contracts of IsTight, of the model and of the program. Conditions: the times are read as they lie.
-/
import Derived.Test.YtpefgleipjjneaaSaved
namespace Go.Proofs.Ytpefgleipjjneaa
open Go.RowKit

/-- Person k's time. -/
def timeAt (xs : List Int) (k : Int) : Int := xs.getD k.toNat 0
def tightOk (xs : List Int) (k : Int) : Bool := savedOk xs k (timeAt xs k - 1)
def tightV (xs : List Int) (k : Int) : Bool := decide (0 < savedV xs k (timeAt xs k - 1))
theorem tightV_no {xs : List Int} {k : Int} (h : tightOk xs k = false) : tightV xs k = false := by
  rw [tightV, savedV_no h]
  rfl
theorem tightOk_who {xs : List Int} {k : Int} (h : prWho xs k = false) : tightOk xs k = false := by rw [tightOk, savedOk, h]; rfl

set_option maxHeartbeats 3200000 in
theorem specTight_any (A : Option Addr) (n c : Nat) (xs : List Int) (k : Int) (w : World) (hA : Holds w A (nums xs)) (hx : xs.length = n) (hn : n ≤ 9223372036854775807) :
    Calls Try.prog 9 #[.slice A n c, .int .i64 k] w fun e w' => e = .returned (.tuple #[.bool (tightV xs k), .bool (tightOk xs k)]) ∧ Below w.heap.size w w' := by
  have HX := Lib.hid hx
  cases hp : prWho xs k
  · have HP := Lib.hid hp
    have HO := Lib.hid (tightOk_who hp)
    clear hp hx
    go_enter Try.func9, Try.ntmps9
    go_wp2_with (go_at_call 17; refine (prPerson_any A n c xs k _ hA HX.out hn).mono ?_; rintro e w' ⟨rfl, rfl⟩; rw [HP.out])
    go_ret2
    exact ⟨by rw [tightV_no HO.out, HO.out]; rfl, Below.refl _ _⟩
  have HP := Lib.hid hp
  simp only [prWho, Bool.and_eq_true, within_iff] at hp
  obtain ⟨hok, h0, h1⟩ := hp
  obtain ⟨m, rfl⟩ : ∃ m : Nat, k = m := ⟨k.toNat, by omega⟩
  have hmn : m < n := by omega
  have hml : m < xs.length := by omega
  have HOK := Lib.hid hok
  have hall := (prOk_parts hok).2.2
  obtain ⟨b1, o1, rfl, hbl1, hc⟩ := hA.look (k := m) (by rw [nums_len]; exact hml)
  simp only [nums, List.getElem_map] at hc
  have hta : timeAt xs (m : Int) = xs[m] := by simp [timeAt, hml]
  have htb := hall _ (List.getElem_mem hml)
  have hm0 : (0 : Int) ≤ (m : Int) := by omega
  have hmi : (m : Int) < (n : Int) := by omega
  have hdiff : (xs[m] = 1 ∧ tightOk xs (m : Int) = false) ∨ (xs[m] ≠ 1 ∧ prOk (xs.set m (xs[m] - 1)) = true ∧ tightOk xs (m : Int) = true ∧ tightV xs (m : Int) = decide (0 < timeT (prTs true xs) - timeT (prTs true (xs.set m (xs[m] - 1))))) := by
    by_cases ht : xs[m] = 1
    · refine .inl ⟨ht, ?_⟩
      have hno : prOk (xs.set m 0) = false := prOk_time (k := m) (by simpa using hml) (by simp)
      rw [tightOk, savedOk, hta, ht, HP.out, Int.toNat_natCast, show (1 : Int) - 1 = 0 from rfl, hno]
      rfl
    · have hq := prOk_put (k := m) (t := xs[m] - 1) hok (by omega) (by omega)
      have ho : tightOk xs (m : Int) = true := by rw [tightOk, savedOk, hta, HP.out, Int.toNat_natCast, hq]; rfl
      refine .inr ⟨ht, hq, ho, ?_⟩
      have hv := savedV_yes (show savedOk xs (m : Int) (timeAt xs (m : Int) - 1) = true from ho)
      rw [tightV, hv, hta, Int.toNat_natCast]
  clear hx hok h0 h1 hall hta
  generalize xs[m] = t at hc htb hdiff
  rcases hdiff with ⟨rfl, ho⟩ | ⟨ht, hq, ho, hv⟩
  · have HO := Lib.hid ho
    clear ho
    go_enter Try.func9, Try.ntmps9
    go_wp2_with (go_at_call 17; refine (prPerson_any _ n c xs (m : Int) _ hA HX.out hn).mono ?_; rintro e w' ⟨rfl, rfl⟩; rw [HP.out])
    go_ret2
    exact ⟨by rw [tightV_no HO.out, HO.out]; rfl, Below.refl _ _⟩
  · have HO := Lib.hid ho
    have HV := Lib.hid hv
    have HQ := Lib.hid hq
    have htw : IntKind.i64.wrap (t - 1) = t - 1 := IntWalk.i64_in _ (by omega)
    have ht1 : (t == 1) = false := by simp; exact ht
    clear ho hv hq ht
    go_enter Try.func9, Try.ntmps9
    go_wp2_with (go_at_call 17; refine (prPerson_any _ n c xs (m : Int) _ hA HX.out hn).mono ?_; rintro e w' ⟨rfl, rfl⟩; rw [HP.out])
    refine (prWith_any _ n c m xs (t - 1) _ hA HX.out hmn HOK.out HQ.out).mono ?_
    rintro e w1 ⟨rfl, hb⟩
    have hA1 := hA.below hb
    have HB := Lib.hid hb
    clear hb
    go_wp2_with fail
    refine (prTime_any _ n c xs _ hA1 HX.out HOK.out).mono ?_
    rintro e w2 ⟨rfl, hb⟩
    have HB2 := Lib.hid (below_then HB.out hb HB.out.size)
    clear hb
    go_wp2
    go_ret2
    refine ⟨?_, HB2.out⟩
    rw [HV.out, HO.out]
    simp only [Int.sub_pos]
    rfl

set_option maxHeartbeats 3200000 in
theorem implTight_any (A : Option Addr) (n c : Nat) (xs : List Int) (k : Int) (w : World) (hA : Holds w A (nums xs)) (hx : xs.length = n) (hn : n ≤ 9223372036854775807) :
    Calls Try.prog 10 #[.slice A n c, .int .i64 k] w fun e w' => e = .returned (.tuple #[.bool (tightV xs k), .bool (tightOk xs k)]) ∧ Below w.heap.size w w' := by
  have HX := Lib.hid hx
  by_cases h0 : k < 0
  · have HO : Hid (tightOk xs k = false) := tightOk_who (by rw [prWho, within_no (.inl h0), Bool.and_false])
    clear hx
    go_enter Try.func10, Try.ntmps10
    go_wp2
    go_ret2
    exact ⟨by rw [tightV_no HO.out, HO.out]; rfl, Below.refl _ _⟩
  obtain ⟨m, rfl⟩ : ∃ m : Nat, k = m := ⟨k.toNat, by omega⟩
  have hk0 : decide ((m : Int) < 0) = false := by simp
  by_cases hmn : n ≤ m
  · have HO : Hid (tightOk xs (m : Int) = false) := tightOk_who (by rw [prWho, within_no (.inr (by omega)), Bool.and_false])
    have hkk : decide (n ≤ m) = true := by simp; omega
    have hki : decide ((n : Int) ≤ (m : Int)) = true := by simp; omega
    clear hx h0
    go_enter Try.func10, Try.ntmps10
    go_wp2
    go_ret2
    exact ⟨by rw [tightV_no HO.out, HO.out]; rfl, Below.refl _ _⟩
  have hml : m < xs.length := by omega
  have hkk : decide (n ≤ m) = false := by simp; omega
  have hki : decide ((n : Int) ≤ (m : Int)) = false := by simp; omega
  have hm0 : (0 : Int) ≤ (m : Int) := by omega
  have hmi : (m : Int) < (n : Int) := by omega
  obtain ⟨b1, o1, rfl, hbl1, hc⟩ := hA.look (k := m) (by rw [nums_len]; exact hml)
  simp only [nums, List.getElem_map] at hc
  have hta : timeAt xs (m : Int) = xs[m] := by simp [timeAt, hml]
  have hsame : savedOk xs (m : Int) (IntKind.i64.wrap (xs[m] - 1)) = tightOk xs (m : Int) ∧ decide (0 < savedV xs (m : Int) (IntKind.i64.wrap (xs[m] - 1))) = tightV xs (m : Int) := by
    cases hok : prOk xs
    · have hw : prWho xs (m : Int) = false := by rw [prWho, hok]; rfl
      have h1 : savedOk xs (m : Int) (IntKind.i64.wrap (xs[m] - 1)) = false := by rw [savedOk, hw]; rfl
      have h2 := tightOk_who hw
      exact ⟨by rw [h1, h2], by rw [savedV_no h1, tightV_no h2]; rfl⟩
    · have htb := (prOk_parts hok).2.2 _ (List.getElem_mem hml)
      have hw : IntKind.i64.wrap (xs[m] - 1) = xs[m] - 1 := IntWalk.i64_in _ (by omega)
      rw [hw, tightOk, tightV, hta]
      exact ⟨rfl, rfl⟩
  generalize xs[m] = t at hc hsame
  obtain ⟨t', ht'⟩ : ∃ t', IntKind.i64.wrap (t - 1) = t' := ⟨_, rfl⟩
  rw [ht'] at hsame
  have HS := Lib.hid hsame
  clear hx h0 hmn hml hta hsame
  go_enter Try.func10, Try.ntmps10
  go_wp2_with fail
  refine (savedWith_any _ n c xs (m : Int) t' _ hA HX.out hn).mono ?_
  rintro e w1 ⟨rfl, hb⟩
  have HB := Lib.hid hb
  clear hb
  go_wp2
  go_ret2
  refine ⟨?_, HB.out⟩
  rw [← HS.out.1, ← HS.out.2]
  rfl
end Go.Proofs.Ytpefgleipjjneaa
