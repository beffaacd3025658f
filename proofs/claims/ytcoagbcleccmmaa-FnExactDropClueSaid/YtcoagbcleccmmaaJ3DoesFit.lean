/-
  What is proved: contracts of PairTime, of the model and of the program. Conditions: the times are read as they lie.
  What is proved: the contract of the program's EscortTime. Conditions: the times are read as they lie.
  What is proved: contracts of the model's values that clues tell and of its test whether times fit a clue. Conditions: hidden times, read as they lie; a clue of them.
  What is proved: contracts of the program's clue of a kind that times fit, and of its test whether times fit a clue. Conditions: hidden times, read as they lie; a clue of them.
  What is proved: the contract of the program's test whether times fit a clue; DoesFit of both sides. Conditions: hidden times, read as they lie; a clue of them.
  What is proved: the law FnExactDoesFit returns true at every argument, and leaves all that was there as it was. Conditions: the arguments are read as they lie.
-/
import Derived.Deep.RegionHeld3
import Derived.Test.YtcoagbcleccmmaaJ2DoesFit
set_option linter.unusedSimpArgs false
set_option linter.unusedVariables false
namespace Go.Proofs.Ytcoagbcleccmmaa
open Go.RowKit

theorem own_holdsK {w : World} {base size : Nat} {e : TypeId} {T : Option Addr} {n c : Nat} {xs : List Value} (h : w.ownsRow base e size (.slice T n c) n xs) : Holds w T xs := by
  obtain ⟨hl, ⟨-, hn⟩ | ⟨g, cap, cur, hv, -, hh, h1, h2, h3, h4⟩⟩ := h
  · subst hn
    exact .inl (List.eq_nil_of_length_eq_zero (by simpa using hl))
  · obtain ⟨rfl, -⟩ : T = some ⟨g, 0, none⟩ ∧ c = cap := by simpa using hv
    have hw : Whole w g e cur := hh
    refine .inr ⟨g, 0, rfl, hw.lt, fun j u hu => ?_⟩
    have hj : j < xs.length := (List.getElem?_eq_some_iff.1 hu).1
    rw [Nat.zero_add, hw.cell j, ← hu]
    rw [hl] at hj
    have := congrArg (fun l : List Value => l[j]?) h4
    simpa [List.getElem?_take, hj] using this
theorem prTs_time_no {f : Bool} {xs : List Int} (h : prOk xs = false) : timeT (prTs f xs) = 0 := by rw [prTs_no h]; rfl
theorem prTs_bd (f : Bool) (xs : List Int) : 0 ≤ timeT (prTs f xs) ∧ timeT (prTs f xs) ≤ 24000 := by
  have h1 := timeT_bd (ts := prTs f xs) prTs_mild
  have h2 := prTs_len f xs
  omega
theorem prTrips_at (A : Option Addr) (n c : Nat) (xs : List Int) (e : Bool) (w : World) (hA : Holds w A (nums xs)) (hx : xs.length = n) (hp : prOk xs = true) :
    Calls Try.prog 93 #[.slice A n c, .bool e] w (PrPost ((prTs (!e) xs).map listT) (signsT (!e) (mk xs (ord xs)) xs.length) (evenT (mk xs (ord xs)) xs.length) w) := by
  have h := prTrips_any A n c xs e w hA hx hp
  rw [prTs_yes hp, hx]
  exact h
theorem prSum_at (A D : Option Addr) (n c z : Nat) (xs : List Int) (f : Bool) (rs : List RowV) (w : World) (hA : Holds w A (nums xs)) (hD : Grid w D rs) (hx : xs.length = n) (hp : prOk xs = true) (hr : rowNums rs = (prTs f xs).map listT) :
    Calls Try.prog 94 #[.slice A n c, .slice D rs.length z] w fun e w' => e = .returned (.int .i64 (timeT (prTs f xs))) ∧ Below w.heap.size w w' := by
  have hm := (prOk_parts hp).2.2
  have hl : rs.length ≤ 24 := by
    have h1 := congrArg List.length hr
    rw [rowNums_len, List.length_map] at h1
    have := prTs_len f xs
    omega
  have h := prSum_any A D n c rs.length z xs rs w hA hD hx rfl (by have := (prOk_parts hp).2.1; omega) (by omega) hm (by rw [hr]; exact all_trips hx prTs_ok)
  rw [hr, sum_trips prTs_ok hm] at h
  exact h

set_option maxHeartbeats 1600000 in
theorem prTime_any (A : Option Addr) (n c : Nat) (xs : List Int) (w : World) (hA : Holds w A (nums xs)) (hx : xs.length = n) (hp : prOk xs = true) :
    Calls Try.prog 92 #[.slice A n c] w fun e w' => e = .returned (.int .i64 (timeT (prTs true xs))) ∧ Below w.heap.size w w' := by
  have HX := Lib.hid hx
  have HP := Lib.hid hp
  clear hx hp
  go_enter Try.func92, Try.ntmps92
  go_wp2_with fail
  refine (prTrips_at A n c xs false _ hA HX.out HP.out).mono ?_
  rintro e w1 ⟨E, d, rs, rfl, hr, hh, hb⟩
  have HR := Lib.hid hr
  have hG := hh.free.grid
  have HB := Lib.hid hb
  have hA1 := hA.below hb
  clear hr hh hb
  go_wp2_with fail
  refine (prSum_at A E n c d xs true rs _ hA1 hG HX.out HP.out HR.out).mono ?_
  rintro e w2 ⟨rfl, hb⟩
  have HB2 := Lib.hid (below_then HB.out hb HB.out.size)
  clear hb hG
  go_wp2
  go_ret
  exact ⟨rfl, HB2.out⟩

set_option maxHeartbeats 1600000 in
theorem implPairTime_any (A : Option Addr) (n c : Nat) (xs : List Int) (w : World) (hA : Holds w A (nums xs)) (hx : xs.length = n) (hn : n ≤ 9223372036854775807) :
    Calls Try.prog 95 #[.slice A n c] w fun e w' => e = .returned (.tuple #[.int .i64 (timeT (prTs true xs)), .bool (prOk xs)]) ∧ Below w.heap.size w w' := by
  have HX := Lib.hid hx
  clear hx
  go_enter Try.func95, Try.ntmps95
  go_wp2_with fail
  refine (pairTrips_any A n c xs true _ hA HX.out hn).mono ?_
  rintro e w1 ⟨E, d, rfl, hown, hb⟩
  have hl := prTs_len true xs
  have HM := Lib.hid (prTs_mild (f := true) (xs := xs))
  generalize hte : prTs true xs = ts at hown hl HM ⊢
  have HTE := Lib.hid hte
  clear hte
  have HO := Lib.hid (own_holdsK hown)
  have HB := Lib.hid hb
  clear hown hb
  go_wp2_with fail
  refine (timeOfTrips_any E ts.length d ts _ HO.out rfl hl HM.out).mono ?_
  rintro e w2 ⟨rfl, hb⟩
  have HB2 := Lib.hid (below_then HB.out hb HB.out.size)
  clear hb
  go_wp2
  go_ret2
  rw [HTE.out]
  exact ⟨rfl, HB2.out⟩

end Go.Proofs.Ytcoagbcleccmmaa

namespace Go.Proofs.Ytcoagbcleccmmaa
open Go.RowKit

set_option maxHeartbeats 1600000 in
theorem implEscortTime_any (A : Option Addr) (n c : Nat) (xs : List Int) (w : World) (hA : Holds w A (nums xs)) (hx : xs.length = n) (hn : n ≤ 9223372036854775807) :
    Calls Try.prog 96 #[.slice A n c] w fun e w' => e = .returned (.tuple #[.int .i64 (timeT (prTs false xs)), .bool (prOk xs)]) ∧ Below w.heap.size w w' := by
  have HX := Lib.hid hx
  clear hx
  go_enter Try.func96, Try.ntmps96
  go_wp2_with fail
  refine (pairTrips_any A n c xs false _ hA HX.out hn).mono ?_
  rintro e w1 ⟨E, d, rfl, hown, hb⟩
  have hl := prTs_len false xs
  have HM := Lib.hid (prTs_mild (f := false) (xs := xs))
  generalize hte : prTs false xs = ts at hown hl HM ⊢
  have HTE := Lib.hid hte
  clear hte
  have HO := Lib.hid (own_holdsK hown)
  have HB := Lib.hid hb
  clear hown hb
  go_wp2_with fail
  refine (timeOfTrips_any E ts.length d ts _ HO.out rfl hl HM.out).mono ?_
  rintro e w2 ⟨rfl, hb⟩
  have HB2 := Lib.hid (below_then HB.out hb HB.out.size)
  clear hb
  go_wp2
  go_ret2
  rw [HTE.out]
  exact ⟨rfl, HB2.out⟩
end Go.Proofs.Ytcoagbcleccmmaa

namespace Go.Proofs.Ytcoagbcleccmmaa
open Go.RowKit

/-- How many numbers are even. -/
def evI (xs : List Int) : Int := (xs.map fun x => 1 - x % 2).sum
theorem evI_next {xs : List Int} {k : Nat} (hk : k < xs.length) : evI (xs.take (k + 1)) = evI (xs.take k) + (1 - xs[k] % 2) := by
  rw [List.take_succ_eq_append_getElem hk, evI, List.map_append, List.sum_append]
  rw [List.map_cons, List.map_nil, List.sum_cons, List.sum_nil, Int.add_zero]
  rfl
theorem sum_next {xs : List Int} {k : Nat} (hk : k < xs.length) : (xs.take (k + 1)).sum = (xs.take k).sum + xs[k] := by
  rw [List.take_succ_eq_append_getElem hk, List.sum_append, List.sum_cons, List.sum_nil, Int.add_zero]
theorem rem_two (x : Int) : x % 2 = 0 ∨ x % 2 = 1 := by omega
theorem sums_bd {xs : List Int} (h : ∀ y ∈ xs, 1 ≤ y ∧ y ≤ 6) : ∀ k, k ≤ xs.length → (0 ≤ (xs.take k).sum ∧ (xs.take k).sum ≤ 6 * k) ∧ (0 ≤ evI (xs.take k) ∧ evI (xs.take k) ≤ k)
  | 0, _ => by simp [evI]
  | k + 1, hk => by
    have ih := sums_bd h k (by omega)
    have hx := h xs[k] (List.getElem_mem _)
    have hr := rem_two xs[k]
    rw [sum_next (by omega), evI_next (by omega)]
    omega
/-- What a clue of a kind tells of times, with a person. -/
def valC (k a : Int) (xs : List Int) : Int :=
  if k = 0 then xs.getD a.toNat 0 else if k = 1 then xs.sum else if k = 2 then timeT (prTs true xs) else if k = 3 then timeT (prTs false xs) else if k = 4 then xs.getD a.toNat 0 - xs.getD 0 0 else evI xs
/-- Do times fit a clue? -/
def fitC (c : Cl) (xs : List Int) : Bool := if c.1 = 0 ∨ c.1 = 4 then decide (valC c.1 c.2.1 xs = c.2.2) else decide (valC c.1 0 xs = c.2.1)
theorem hid_ok {xs : List Int} (h : hidI xs = true) : prOk xs = true := by
  obtain ⟨h1, h4, hy, -⟩ := hidI_parts h
  rw [prOk, within_yes (by omega) (by omega), Bool.true_and]
  exact allIn_yes fun k hk => within_yes (hy _ (List.getElem_mem hk)).1 (Int.le_trans (hy _ (List.getElem_mem hk)).2 (by omega))

set_option maxHeartbeats 3200000 in
theorem pzValue_any (k a : Int) (A : Option Addr) (n c : Nat) (xs : List Int) (w : World) (hA : Holds w A (nums xs)) (hx : xs.length = n) (hh : hidI xs = true) (hk0 : 0 ≤ k) (hk5 : k ≤ 5) (ha : k = 0 ∨ k = 4 → 0 ≤ a ∧ a < n) :
    Calls Try.prog 81 #[.int .i64 k, .int .i64 a, .slice A n c] w fun e w' => e = .returned (.int .i64 (valC k a xs)) ∧ Below w.heap.size w w' := by
  subst hx
  obtain ⟨h1, h4, hy, -⟩ := hidI_parts hh
  have hbd := sums_bd hy
  have HY := Lib.hid hy
  have HBD := Lib.hid hbd
  have HOK := Lib.hid (hid_ok hh)
  have HA := Lib.hid ha
  have HHA := Lib.hid hA
  clear hy hbd ha
  go_enter Try.func81, Try.ntmps81
  go_wp2
  go_loop [7, 8, 16] (fun s e i => ∃ j : Nat, j ≤ xs.length ∧ i = .int .i64 j ∧ s = .int .i64 (xs.take j).sum ∧ e = .int .i64 (evI (xs.take j))) (fun _ _ i => xs.length - (intOf i).toNat)
  case atStart => exact ⟨0, by omega, rfl, rfl, rfl⟩
  case round =>
    obtain ⟨j, hj, rfl, rfl, rfl⟩ := hrel
    by_cases hlt : j < xs.length
    · obtain ⟨b, o, rfl, hb, hc⟩ := hA.look (k := j) (by simpa [nums] using hlt)
      simp only [nums, List.getElem_map] at hc
      have HS := Lib.hid (sum_next hlt)
      have HE := Lib.hid (evI_next hlt)
      have hx1 := HY.out xs[j] (List.getElem_mem _)
      obtain ⟨x, hx⟩ : ∃ x, x = xs[j] := ⟨_, rfl⟩
      rw [← hx] at hc hx1
      rw [← hx] at HS HE
      obtain ⟨s, hs⟩ : ∃ s, s = (xs.take j).sum := ⟨_, rfl⟩
      obtain ⟨v, hv⟩ : ∃ v, v = evI (xs.take j) := ⟨_, rfl⟩
      have hbj := HBD.out j (by omega)
      rw [← hs, ← hv] at hbj
      rw [← hs] at HS ⊢
      rw [← hv] at HE ⊢
      have hjl : (j : Int) < xs.length := by omega
      have hsw : IntKind.i64.wrap (s + x) = s + x := IntWalk.i64_in _ (by omega)
      have hvw : IntKind.i64.wrap (v + 1) = v + 1 := IntWalk.i64_in _ (by omega)
      clear hx hs hv
      rcases rem_two x with hr | hr
      · have hrr : (x % 2 == 0) = true := by simp [hr]
        rw [hr] at HE
        clear hr
        go_wp2
        go_round
        case rel => exact ⟨j + 1, by omega, by go_num, by rw [HS.out], by rw [HE.out]; exact congrArg _ (by omega)⟩
        case measure => simp [intOf]; omega
      · have hrr : (x % 2 == 0) = false := by simp [hr]
        rw [hr] at HE
        clear hr
        go_wp2
        go_round
        case rel => exact ⟨j + 1, by omega, by go_num, by rw [HS.out], by rw [HE.out]; exact congrArg _ (by omega)⟩
        case measure => simp [intOf]; omega
    · obtain rfl : j = xs.length := by omega
      rw [List.take_length]
      by_cases e0 : k = 0
      · subst e0
        obtain ⟨ha0, han⟩ := HA.out (.inl rfl)
        obtain ⟨m, rfl⟩ := Int.eq_ofNat_of_zero_le ha0
        have hm : m < xs.length := by omega
        obtain ⟨b, o, rfl, hb, hc⟩ := hA.look (k := m) (by simpa [nums] using hm)
        simp only [nums, List.getElem_map] at hc
        have HV : Hid (valC 0 (m : Int) xs = xs[m]) := by show _ = _; simp [valC, hm]
        go_wp2
        go_ret
        exact ⟨ret_of (by rw [HV.out]; rfl), Below.refl _ _⟩
      by_cases e1 : k = 1
      · subst e1
        go_wp2
        go_ret
        exact ⟨rfl, Below.refl _ _⟩
      by_cases e2 : k = 2
      · subst e2
        go_wp2_with fail
        refine (prTime_any A _ c xs _ HHA.out rfl HOK.out).mono ?_
        rintro e w1 ⟨rfl, hb⟩
        go_wp2
        go_ret
        exact ⟨rfl, hb⟩
      by_cases e3 : k = 3
      · subst e3
        go_wp2_with fail
        refine (prTrips_at A _ c xs true _ HHA.out rfl HOK.out).mono ?_
        rintro e w1 ⟨E, d, rs, rfl, hr, hh, hb⟩
        have HR := Lib.hid hr
        have hG := hh.free.grid
        have HB := Lib.hid hb
        have hA1 := HHA.out.below hb
        clear hr hh hb
        go_wp2_with fail
        refine (prSum_at A E _ c d xs false rs _ hA1 hG rfl HOK.out HR.out).mono ?_
        rintro e w2 ⟨rfl, hb⟩
        have HB2 := Lib.hid (below_then HB.out hb HB.out.size)
        clear hb hG
        go_wp2
        go_ret
        exact ⟨rfl, HB2.out⟩
      by_cases e4 : k = 4
      · subst e4
        obtain ⟨ha0, han⟩ := HA.out (.inr rfl)
        obtain ⟨m, rfl⟩ := Int.eq_ofNat_of_zero_le ha0
        have hm : m < xs.length := by omega
        have h0 : 0 < xs.length := by omega
        obtain ⟨b, o, rfl, hb, hc⟩ := hA.look (k := m) (by simpa [nums] using hm)
        obtain ⟨b2, o2, hAe2, hb2, hc0⟩ := hA.look (k := 0) (by simpa [nums] using h0)
        obtain ⟨rfl, rfl⟩ : b = b2 ∧ o = o2 := by
          simp only [Option.some.injEq, Addr.mk.injEq] at hAe2
          exact ⟨hAe2.1, hAe2.2.1⟩
        clear hAe2 hb2
        simp only [nums, List.getElem_map, Nat.add_zero] at hc hc0
        have HV : Hid (valC 4 (m : Int) xs = xs[m] - xs[0]) := by show _ = _; simp [valC, hm, h0]
        have hxm := HY.out xs[m] (List.getElem_mem _)
        have hx0 := HY.out xs[0] (List.getElem_mem _)
        obtain ⟨x, hx⟩ : ∃ x, x = xs[m] := ⟨_, rfl⟩
        obtain ⟨y, hy⟩ : ∃ y, y = xs[0] := ⟨_, rfl⟩
        rw [← hx] at hc hxm
        rw [← hx, ← hy] at HV
        rw [← hy] at hc0 hx0
        have hxw : IntKind.i64.wrap (x - y) = x - y := IntWalk.i64_in _ (by omega)
        have h0i : (0 : Int) < xs.length := by omega
        clear hx hy
        go_wp2_with fail
        go_region
        go_wp2
        go_ret
        exact ⟨ret_of (by rw [HV.out]; rfl), (Below.refl _ _).drew⟩
      have e5 : k = 5 := by omega
      subst e5
      go_wp2
      go_ret
      exact ⟨rfl, Below.refl _ _⟩

theorem valC_noperson {k a : Int} {xs : List Int} (h0 : k ≠ 0) (h4 : k ≠ 4) : valC k a xs = valC k 0 xs := by simp [valC, h0, h4]
theorem clOk_kind {p k a b : Int} (h : clOk p (k, a, b) = true) : 0 ≤ k ∧ k ≤ 5 := by
  by_cases e0 : k = 0
  · omega
  by_cases e1 : k = 1
  · omega
  by_cases e2 : k = 2
  · omega
  by_cases e3 : k = 3
  · omega
  by_cases e4 : k = 4
  · omega
  by_cases e5 : k = 5
  · omega
  rw [clOk_no e0 e1 e2 e3 e4 e5] at h
  cases h
theorem clOk_person {p k a b : Int} (h : clOk p (k, a, b) = true) (hk : k = 0 ∨ k = 4) : 0 ≤ a ∧ a < p := by
  rcases hk with rfl | rfl
  · rw [clOk0, Bool.and_eq_true, within_iff] at h; omega
  · rw [clOk4, Bool.and_eq_true, within_iff] at h; omega
theorem clOk_rest {p k a b : Int} (h : clOk p (k, a, b) = true) (h0 : k ≠ 0) (h4 : k ≠ 4) : b = 0 := by
  by_cases hb : b = 0
  · exact hb
  · rw [clOk_b h0 h4 hb] at h; cases h

set_option maxHeartbeats 3200000 in
theorem pzFits_any (p k a b : Int) (A : Option Addr) (n c : Nat) (xs : List Int) (w : World) (hA : Holds w A (nums xs)) (hx : xs.length = n) (hh : hidI xs = true) (hc : clOk p (k, a, b) = true) (hp : p = n) :
    Calls Try.prog 63 #[.agg #[.int .i64 k, .int .i64 a, .int .i64 b], .slice A n c] w fun e w' => e = .returned (.bool (fitC (k, a, b) xs)) ∧ Below w.heap.size w w' := by
  obtain ⟨hk0, hk5⟩ := clOk_kind hc
  have HP := Lib.hid (fun h => (clOk_person hc h : 0 ≤ a ∧ a < p))
  have hw0 := Whole.fresh w 25 #[.int .i64 k, .int .i64 a, .int .i64 b]
  have hbl := below1 w (.cells #[.int .i64 k, .int .i64 a, .int .i64 b] 25)
  obtain ⟨W, hW⟩ : ∃ W, W = w.alloc (.cells #[.int .i64 k, .int .i64 a, .int .i64 b] 25) := ⟨_, rfl⟩
  have hAW : Holds W A (nums xs) := by rw [hW]; exact hA.below hbl
  rw [← hW] at hw0 hbl
  have HAW := Lib.hid hAW
  have HB := Lib.hid hbl
  have H0 := Lib.hid hw0
  have HWW := Lib.hid hW
  have HX := Lib.hid hx
  have HPN := Lib.hid hp
  clear hbl hA hAW hW hx hc hp
  by_cases h04 : k = 0 ∨ k = 4
  · have HF : Hid (fitC (k, a, b) xs = decide (valC k a xs = b)) := if_pos h04
    obtain ⟨c0, c1, c2⟩ := hw0.cells3
    have hlt := hw0.lt
    have hper := HP.out h04
    clear hw0
    have hcase : (k = 0 → True) ∧ (k = 4 → True) := ⟨fun _ => trivial, fun _ => trivial⟩
    clear hcase
    have hb0 : Below W.heap.size W W := Below.refl _ _
    have hval := fun (q : World) (hq : Below W.heap.size W q) => pzValue_any k a A n c xs q (HAW.out.below hq) HX.out hh hk0 hk5 (fun _ => by have := HPN.out; omega)
    have HVAL := Lib.hid hval
    clear hval
    rcases h04 with rfl | rfl
    · go_enter Try.func63, Try.ntmps63
      go_wp2_with fail
      rw [← HWW.out]
      go_region_held3 (fun w' => w'.cell? ⟨w.heap.size, 0, none⟩ = some (.int .i64 0) ∧ w'.cell? ⟨w.heap.size, 1, none⟩ = some (.int .i64 a) ∧ w'.cell? ⟨w.heap.size, 2, none⟩ = some (.int .i64 b)) (go_keep)
        (first | (go_at_call 81; refine (HVAL.out _ (Below.refl _ _).drew).mono ?_; rintro e w2 ⟨rfl, hb2⟩; have hb3 : Below W.heap.size W w2 := below_then (Below.refl W.heap.size W).drew hb2 (Nat.le_refl _); have hc3 := H0.out.below hb3; obtain ⟨e0, e1, e2⟩ := hc3.cells3; have HB3 := Lib.hid (below_then HB.out hb3 HB.out.size); clear hb2 hb3 hc3) | fail)
      go_wp2
      go_ret
      exact ⟨ret_of (by rw [HF.out]; rfl), HB3.out⟩
    · go_enter Try.func63, Try.ntmps63
      go_wp2_with fail
      rw [← HWW.out]
      go_region_held3 (fun w' => w'.cell? ⟨w.heap.size, 0, none⟩ = some (.int .i64 4) ∧ w'.cell? ⟨w.heap.size, 1, none⟩ = some (.int .i64 a) ∧ w'.cell? ⟨w.heap.size, 2, none⟩ = some (.int .i64 b)) (go_keep)
        (first | (go_at_call 81; refine (HVAL.out _ (Below.refl _ _).drew).mono ?_; rintro e w2 ⟨rfl, hb2⟩; have hb3 : Below W.heap.size W w2 := below_then (Below.refl W.heap.size W).drew hb2 (Nat.le_refl _); have hc3 := H0.out.below hb3; obtain ⟨e0, e1, e2⟩ := hc3.cells3; have HB3 := Lib.hid (below_then HB.out hb3 HB.out.size); clear hb2 hb3 hc3) | fail)
      go_wp2
      go_ret
      exact ⟨ret_of (by rw [HF.out]; rfl), HB3.out⟩
  · have HF : Hid (fitC (k, a, b) xs = decide (valC k 0 xs = a)) := if_neg h04
    obtain ⟨c0, c1, c2⟩ := hw0.cells3
    have hlt := hw0.lt
    clear hw0
    have hk0' : k ≠ 0 := fun e => h04 (.inl e)
    have hk4' : k ≠ 4 := fun e => h04 (.inr e)
    have HVAL := Lib.hid (fun (q : World) (hq : Below W.heap.size W q) => pzValue_any k 0 A n c xs q (HAW.out.below hq) HX.out hh hk0 hk5 (fun h => absurd h h04))
    have hk0b : (k == 0) = false := by simp [hk0']
    have hk4b : (k == 4) = false := by simp [hk4']
    clear h04
    go_enter Try.func63, Try.ntmps63
    go_wp2_with fail
    rw [← HWW.out]
    go_region_held3 (fun w' => w'.cell? ⟨w.heap.size, 0, none⟩ = some (.int .i64 k) ∧ w'.cell? ⟨w.heap.size, 1, none⟩ = some (.int .i64 a) ∧ w'.cell? ⟨w.heap.size, 2, none⟩ = some (.int .i64 b)) (go_keep)
      (first | (go_at_call 81; refine (HVAL.out _ (Below.refl _ _).drew).mono ?_; rintro e w2 ⟨rfl, hb2⟩; have hb3 : Below W.heap.size W w2 := below_then (Below.refl W.heap.size W).drew hb2 (Nat.le_refl _); have hc3 := H0.out.below hb3; obtain ⟨e0, e1, e2⟩ := hc3.cells3; have HB3 := Lib.hid (below_then HB.out hb3 HB.out.size); clear hb2 hb3 hc3) | fail)
    go_wp2
    go_ret
    exact ⟨ret_of (by rw [HF.out]; rfl), HB3.out⟩
end Go.Proofs.Ytcoagbcleccmmaa

namespace Go.Proofs.Ytcoagbcleccmmaa
open Go.RowKit

/-- The clue of a kind that times fit, with a person. -/
def clOfC (k a : Int) (xs : List Int) : Cl := if k = 0 ∨ k = 4 then (k, a, valC k a xs) else (k, valC k 0 xs, 0)

set_option maxHeartbeats 3200000 in
set_option linter.unusedVariables false in
theorem clueOf_0 (a : Int) (A : Option Addr) (n c : Nat) (xs : List Int) (w : World) (hA : Holds w A (nums xs)) (hx : xs.length = n) (hh : hidI xs = true) (ha : 0 ≤ a ∧ a < n) :
    Calls Try.prog 82 #[.int .i64 0, .int .i64 a, .slice A n c] w fun e w' => e = .returned (.agg (clC (clOfC 0 a xs))) ∧ Below w.heap.size w w' := by
  subst hx
  obtain ⟨h1, h4, hy, -⟩ := hidI_parts hh
  have hbd := sums_bd hy
  have HY := Lib.hid hy
  have HBD := Lib.hid hbd
  have HOK := Lib.hid (hid_ok hh)
  have hb2 := below2 w (.cells #[.int .i64 0, .int .i64 0, .int .i64 0] 25) (.cells #[.int .i64 0, .int .i64 0, .int .i64 0] 25)
  have HHA := Lib.hid (hA.below hb2)
  have HB2 := Lib.hid hb2
  clear hy hbd hb2
  obtain ⟨ha0, han⟩ := ha
  obtain ⟨m, rfl⟩ := Int.eq_ofNat_of_zero_le ha0
  have hm : m < xs.length := by omega
  obtain ⟨b, o, rfl, hb, hc⟩ := hA.look (k := m) (by simpa [nums] using hm)
  simp only [nums, List.getElem_map] at hc
  have HV : Hid (clOfC 0 (m : Int) xs = (0, (m : Int), xs[m])) := by show _ = _; simp [clOfC, valC, hm]
  obtain ⟨x, hx⟩ : ∃ x, x = xs[m] := ⟨_, rfl⟩
  rw [← hx] at hc HV
  clear hx
  go_enter Try.func82, Try.ntmps82
  go_wp2_with fail
  go_region
  go_wp2
  exact bodyPost_ret (v := .agg #[.int .i64 0, .int .i64 m, .int .i64 x]) (by simp [results, Try.results82, go_sem]) rfl ⟨by rw [HV.out]; rfl, (below2 w _ _).drew⟩

set_option maxHeartbeats 3200000 in
set_option linter.unusedVariables false in
theorem clueOf_1 (a : Int) (A : Option Addr) (n c : Nat) (xs : List Int) (w : World) (hA : Holds w A (nums xs)) (hx : xs.length = n) (hh : hidI xs = true) :
    Calls Try.prog 82 #[.int .i64 1, .int .i64 a, .slice A n c] w fun e w' => e = .returned (.agg (clC (clOfC 1 a xs))) ∧ Below w.heap.size w w' := by
  subst hx
  obtain ⟨h1, h4, hy, -⟩ := hidI_parts hh
  have hbd := sums_bd hy
  have HY := Lib.hid hy
  have HBD := Lib.hid hbd
  have HOK := Lib.hid (hid_ok hh)
  have hb2 := below2 w (.cells #[.int .i64 0, .int .i64 0, .int .i64 0] 25) (.cells #[.int .i64 1, .int .i64 0, .int .i64 0] 25)
  have HHA := Lib.hid (hA.below hb2)
  have HB2 := Lib.hid hb2
  clear hy hbd hb2
  have HV : Hid (clOfC 1 a xs = (1, xs.sum, 0)) := by show _ = _; simp [clOfC, valC]
  have hw0 := (Whole.fresh w 25 #[.int .i64 0, .int .i64 0, .int .i64 0]).alloc (.cells #[.int .i64 1, .int .i64 0, .int .i64 0] 25)
  have hw1 := Whole.fresh (w.alloc (.cells #[.int .i64 0, .int .i64 0, .int .i64 0] 25)) 25 #[.int .i64 1, .int .i64 0, .int .i64 0]
  rw [World.size_alloc] at hw1
  have H0 := Lib.hid hw0
  have H1 := Lib.hid hw1
  have HA0 := Lib.hid hA
  clear hw0 hw1
  go_enter Try.func82, Try.ntmps82
  go_wp2_with fail
  go_loopw [28] (fun i wr => ∃ j : Nat, j ≤ xs.length ∧ i = .int .i64 j ∧ Whole wr w.heap.size 25 #[.int .i64 0, .int .i64 0, .int .i64 0] ∧ Whole wr (w.heap.size + 1) 25 #[.int .i64 1, .int .i64 (xs.take j).sum, .int .i64 0] ∧ Below w.heap.size w wr) (fun i _ => xs.length - (intOf i).toNat)
  case atStart => exact ⟨0, by omega, rfl, H0.out, H1.out, HB2.out⟩
  case round =>
    obtain ⟨j, hj, rfl, hq0, hq1, hb⟩ := hrel
    obtain ⟨c0, c1, c2⟩ := hq0.cells3
    obtain ⟨d0, d1, d2⟩ := hq1.cells3
    have hl0 := hq0.lt
    have hl1 := hq1.lt
    have HQ0 := Lib.hid hq0
    have HQ1 := Lib.hid hq1
    by_cases hlt : j < xs.length
    · obtain ⟨b, o, rfl, hbl, hc⟩ := (HA0.out.below hb).look (k := j) (by simpa [nums] using hlt)
      simp only [nums, List.getElem_map] at hc
      have hbw : b < w.heap.size := by
        obtain ⟨b2, o2, h2, hb3, -⟩ := HA0.out.look (k := j) (by simpa [nums] using hlt)
        simp only [Option.some.injEq, Addr.mk.injEq] at h2
        obtain ⟨rfl, -⟩ := h2
        exact hb3
      have HS := Lib.hid (sum_next hlt)
      have hx1 := HY.out xs[j] (List.getElem_mem _)
      obtain ⟨x, hx⟩ : ∃ x, x = xs[j] := ⟨_, rfl⟩
      rw [← hx] at hc hx1
      rw [← hx] at HS
      obtain ⟨s, hs⟩ : ∃ s, s = (xs.take j).sum := ⟨_, rfl⟩
      have hbj := HBD.out j (by omega)
      rw [← hs] at hbj d1 HQ1
      rw [← hs] at HS
      have hjl : (j : Int) < xs.length := by omega
      have g1 := hq1.open_ 1
      have HB := Lib.hid hb
      have hsw : IntKind.i64.wrap (s + x) = s + x := IntWalk.i64_in _ (by omega)
      clear hx hs hq0 hq1 hb
      go_wp2
      go_roundw
      case rel => exact ⟨j + 1, by omega, by go_num, HQ0.out.off (by omega), by rw [HS.out]; exact HQ1.out.set_ 1 _, below_set HB.out (by omega)⟩
      case measure => simp [intOf]; omega
    · obtain rfl : j = xs.length := by omega
      rw [List.take_length] at d1
      have f0 := hq0.open_ 0
      have f1 := hq0.open_ 1
      have f2 := hq0.open_ 2
      obtain ⟨s, hs⟩ : ∃ s, s = xs.sum := ⟨_, rfl⟩
      rw [← hs] at d1 HV
      have HB := Lib.hid hb
      clear hq0 hq1 hb hs
      go_wp2
      exact bodyPost_ret (v := .agg #[.int .i64 1, .int .i64 s, .int .i64 0]) (by simp [results, Try.results82, go_sem, c0, c1, c2, d0, d1, d2]) rfl ⟨by rw [HV.out]; rfl, below_set (below_set (below_set HB.out (by omega)) (by omega)) (by omega)⟩

set_option maxHeartbeats 3200000 in
set_option linter.unusedVariables false in
theorem clueOf_2 (a : Int) (A : Option Addr) (n c : Nat) (xs : List Int) (w : World) (hA : Holds w A (nums xs)) (hx : xs.length = n) (hh : hidI xs = true) :
    Calls Try.prog 82 #[.int .i64 2, .int .i64 a, .slice A n c] w fun e w' => e = .returned (.agg (clC (clOfC 2 a xs))) ∧ Below w.heap.size w w' := by
  subst hx
  obtain ⟨h1, h4, hy, -⟩ := hidI_parts hh
  have hbd := sums_bd hy
  have HY := Lib.hid hy
  have HBD := Lib.hid hbd
  have HOK := Lib.hid (hid_ok hh)
  have hb2 := below2 w (.cells #[.int .i64 0, .int .i64 0, .int .i64 0] 25) (.cells #[.int .i64 2, .int .i64 0, .int .i64 0] 25)
  have HHA := Lib.hid (hA.below hb2)
  have HB2 := Lib.hid hb2
  clear hy hbd hb2
  have HV : Hid (clOfC 2 a xs = (2, timeT (prTs true xs), 0)) := by show _ = _; simp [clOfC, valC]
  obtain ⟨t, ht⟩ : ∃ t, t = timeT (prTs true xs) := ⟨_, rfl⟩
  rw [← ht] at HV
  have HT := Lib.hid ht
  clear ht
  have hw0 := (Whole.fresh w 25 #[.int .i64 0, .int .i64 0, .int .i64 0]).alloc (.cells #[.int .i64 2, .int .i64 0, .int .i64 0] 25)
  have hw1 := Whole.fresh (w.alloc (.cells #[.int .i64 0, .int .i64 0, .int .i64 0] 25)) 25 #[.int .i64 2, .int .i64 0, .int .i64 0]
  rw [World.size_alloc] at hw1
  have H0 := Lib.hid hw0
  have H1 := Lib.hid hw1
  clear hw0 hw1
  go_enter Try.func82, Try.ntmps82
  go_wp2_with fail
  refine (implPairTime_any A _ c xs _ HHA.out rfl (by omega)).mono ?_
  rintro e w2 ⟨rfl, hb⟩
  rw [HOK.out, ← HT.out]
  have hq0 := H0.out.below hb
  have hq1 := H1.out.below hb
  obtain ⟨c0, c1, c2⟩ := hq0.cells3
  obtain ⟨d0, d1, d2⟩ := hq1.cells3
  have hl0 := hq0.lt
  have hl1 := hq1.lt
  have f0 := hq0.open_ 0
  have f1 := hq0.open_ 1
  have f2 := hq0.open_ 2
  have g1 := hq1.open_ 1
  have HB3 := Lib.hid (below_then HB2.out hb HB2.out.size)
  clear hb hq0 hq1
  go_wp2
  exact bodyPost_ret (v := .agg #[.int .i64 2, .int .i64 t, .int .i64 0]) (by simp [results, Try.results82, go_sem, c0, c1, c2, d0, d1, d2]) rfl ⟨by rw [HV.out]; rfl, below_set (below_set (below_set (below_set HB3.out (by omega)) (by omega)) (by omega)) (by omega)⟩

set_option maxHeartbeats 3200000 in
set_option linter.unusedVariables false in
theorem clueOf_3 (a : Int) (A : Option Addr) (n c : Nat) (xs : List Int) (w : World) (hA : Holds w A (nums xs)) (hx : xs.length = n) (hh : hidI xs = true) :
    Calls Try.prog 82 #[.int .i64 3, .int .i64 a, .slice A n c] w fun e w' => e = .returned (.agg (clC (clOfC 3 a xs))) ∧ Below w.heap.size w w' := by
  subst hx
  obtain ⟨h1, h4, hy, -⟩ := hidI_parts hh
  have hbd := sums_bd hy
  have HY := Lib.hid hy
  have HBD := Lib.hid hbd
  have HOK := Lib.hid (hid_ok hh)
  have hb2 := below2 w (.cells #[.int .i64 0, .int .i64 0, .int .i64 0] 25) (.cells #[.int .i64 3, .int .i64 0, .int .i64 0] 25)
  have HHA := Lib.hid (hA.below hb2)
  have HB2 := Lib.hid hb2
  clear hy hbd hb2
  have HV : Hid (clOfC 3 a xs = (3, timeT (prTs false xs), 0)) := by show _ = _; simp [clOfC, valC]
  obtain ⟨t, ht⟩ : ∃ t, t = timeT (prTs false xs) := ⟨_, rfl⟩
  rw [← ht] at HV
  have HT := Lib.hid ht
  clear ht
  have hw0 := (Whole.fresh w 25 #[.int .i64 0, .int .i64 0, .int .i64 0]).alloc (.cells #[.int .i64 3, .int .i64 0, .int .i64 0] 25)
  have hw1 := Whole.fresh (w.alloc (.cells #[.int .i64 0, .int .i64 0, .int .i64 0] 25)) 25 #[.int .i64 3, .int .i64 0, .int .i64 0]
  rw [World.size_alloc] at hw1
  have H0 := Lib.hid hw0
  have H1 := Lib.hid hw1
  clear hw0 hw1
  go_enter Try.func82, Try.ntmps82
  go_wp2_with fail
  refine (implEscortTime_any A _ c xs _ HHA.out rfl (by omega)).mono ?_
  rintro e w2 ⟨rfl, hb⟩
  rw [HOK.out, ← HT.out]
  have hq0 := H0.out.below hb
  have hq1 := H1.out.below hb
  obtain ⟨c0, c1, c2⟩ := hq0.cells3
  obtain ⟨d0, d1, d2⟩ := hq1.cells3
  have hl0 := hq0.lt
  have hl1 := hq1.lt
  have f0 := hq0.open_ 0
  have f1 := hq0.open_ 1
  have f2 := hq0.open_ 2
  have g1 := hq1.open_ 1
  have HB3 := Lib.hid (below_then HB2.out hb HB2.out.size)
  clear hb hq0 hq1
  go_wp2
  exact bodyPost_ret (v := .agg #[.int .i64 3, .int .i64 t, .int .i64 0]) (by simp [results, Try.results82, go_sem, c0, c1, c2, d0, d1, d2]) rfl ⟨by rw [HV.out]; rfl, below_set (below_set (below_set (below_set HB3.out (by omega)) (by omega)) (by omega)) (by omega)⟩

set_option maxHeartbeats 3200000 in
set_option linter.unusedVariables false in
theorem clueOf_4 (a : Int) (A : Option Addr) (n c : Nat) (xs : List Int) (w : World) (hA : Holds w A (nums xs)) (hx : xs.length = n) (hh : hidI xs = true) (ha : 0 ≤ a ∧ a < n) :
    Calls Try.prog 82 #[.int .i64 4, .int .i64 a, .slice A n c] w fun e w' => e = .returned (.agg (clC (clOfC 4 a xs))) ∧ Below w.heap.size w w' := by
  subst hx
  obtain ⟨h1, h4, hy, -⟩ := hidI_parts hh
  have hbd := sums_bd hy
  have HY := Lib.hid hy
  have HBD := Lib.hid hbd
  have HOK := Lib.hid (hid_ok hh)
  have hb2 := below2 w (.cells #[.int .i64 0, .int .i64 0, .int .i64 0] 25) (.cells #[.int .i64 4, .int .i64 0, .int .i64 0] 25)
  have HHA := Lib.hid (hA.below hb2)
  have HB2 := Lib.hid hb2
  clear hy hbd hb2
  obtain ⟨ha0, han⟩ := ha
  obtain ⟨m, rfl⟩ := Int.eq_ofNat_of_zero_le ha0
  have hm : m < xs.length := by omega
  obtain ⟨b, o, rfl, hb, hc⟩ := hA.look (k := m) (by simpa [nums] using hm)
  have h0 : 0 < xs.length := by omega
  obtain ⟨b2, o2, hAe2, hb2, hc0⟩ := hA.look (k := 0) (by simpa [nums] using h0)
  obtain ⟨rfl, rfl⟩ : b = b2 ∧ o = o2 := by
    simp only [Option.some.injEq, Addr.mk.injEq] at hAe2
    exact ⟨hAe2.1, hAe2.2.1⟩
  clear hAe2 hb2
  simp only [nums, List.getElem_map, Nat.add_zero] at hc hc0
  have HV : Hid (clOfC 4 (m : Int) xs = ((4 : Int), (m : Int), xs[m] - xs[0])) := by show _ = _; simp [clOfC, valC, hm, h0]
  have hxm := HY.out xs[m] (List.getElem_mem _)
  have hx0 := HY.out xs[0] (List.getElem_mem _)
  obtain ⟨x, hx⟩ : ∃ x, x = xs[m] := ⟨_, rfl⟩
  obtain ⟨y, hy⟩ : ∃ y, y = xs[0] := ⟨_, rfl⟩
  rw [← hx] at hc hxm
  rw [← hx, ← hy] at HV
  rw [← hy] at hc0 hx0
  have hxw : IntKind.i64.wrap (x - y) = x - y := IntWalk.i64_in _ (by omega)
  have h0i : (0 : Int) < xs.length := by omega
  clear hx hy
  go_enter Try.func82, Try.ntmps82
  go_wp2_with fail
  go_region
  go_wp2
  exact bodyPost_ret (v := .agg #[.int .i64 4, .int .i64 m, .int .i64 (x - y)]) (by simp [results, Try.results82, go_sem]) rfl ⟨by rw [HV.out]; rfl, (below2 w _ _).drew⟩

set_option maxHeartbeats 3200000 in
set_option linter.unusedVariables false in
theorem clueOf_5 (a : Int) (A : Option Addr) (n c : Nat) (xs : List Int) (w : World) (hA : Holds w A (nums xs)) (hx : xs.length = n) (hh : hidI xs = true) :
    Calls Try.prog 82 #[.int .i64 5, .int .i64 a, .slice A n c] w fun e w' => e = .returned (.agg (clC (clOfC 5 a xs))) ∧ Below w.heap.size w w' := by
  subst hx
  obtain ⟨h1, h4, hy, -⟩ := hidI_parts hh
  have hbd := sums_bd hy
  have HY := Lib.hid hy
  have HBD := Lib.hid hbd
  have HOK := Lib.hid (hid_ok hh)
  have hb2 := below2 w (.cells #[.int .i64 0, .int .i64 0, .int .i64 0] 25) (.cells #[.int .i64 5, .int .i64 0, .int .i64 0] 25)
  have HHA := Lib.hid (hA.below hb2)
  have HB2 := Lib.hid hb2
  clear hy hbd hb2
  have HV : Hid (clOfC 5 a xs = (5, evI xs, 0)) := by show _ = _; simp [clOfC, valC]
  have hw0 := (Whole.fresh w 25 #[.int .i64 0, .int .i64 0, .int .i64 0]).alloc (.cells #[.int .i64 5, .int .i64 0, .int .i64 0] 25)
  have hw1 := Whole.fresh (w.alloc (.cells #[.int .i64 0, .int .i64 0, .int .i64 0] 25)) 25 #[.int .i64 5, .int .i64 0, .int .i64 0]
  rw [World.size_alloc] at hw1
  have H0 := Lib.hid hw0
  have H1 := Lib.hid hw1
  have HA0 := Lib.hid hA
  clear hw0 hw1
  go_enter Try.func82, Try.ntmps82
  go_wp2_with fail
  go_loopw [71] (fun i wr => ∃ j : Nat, j ≤ xs.length ∧ i = .int .i64 j ∧ Whole wr w.heap.size 25 #[.int .i64 0, .int .i64 0, .int .i64 0] ∧ Whole wr (w.heap.size + 1) 25 #[.int .i64 5, .int .i64 (evI (xs.take j)), .int .i64 0] ∧ Below w.heap.size w wr) (fun i _ => xs.length - (intOf i).toNat)
  case atStart => exact ⟨0, by omega, rfl, H0.out, H1.out, HB2.out⟩
  case round =>
    obtain ⟨j, hj, rfl, hq0, hq1, hb⟩ := hrel
    obtain ⟨c0, c1, c2⟩ := hq0.cells3
    obtain ⟨d0, d1, d2⟩ := hq1.cells3
    have hl0 := hq0.lt
    have hl1 := hq1.lt
    have HQ0 := Lib.hid hq0
    have HQ1 := Lib.hid hq1
    by_cases hlt : j < xs.length
    · obtain ⟨b, o, rfl, hbl, hc⟩ := (HA0.out.below hb).look (k := j) (by simpa [nums] using hlt)
      simp only [nums, List.getElem_map] at hc
      have hbw : b < w.heap.size := by
        obtain ⟨b2, o2, h2, hb3, -⟩ := HA0.out.look (k := j) (by simpa [nums] using hlt)
        simp only [Option.some.injEq, Addr.mk.injEq] at h2
        obtain ⟨rfl, -⟩ := h2
        exact hb3
      have HS := Lib.hid (evI_next hlt)
      have hx1 := HY.out xs[j] (List.getElem_mem _)
      obtain ⟨x, hx⟩ : ∃ x, x = xs[j] := ⟨_, rfl⟩
      rw [← hx] at hc hx1
      rw [← hx] at HS
      obtain ⟨s, hs⟩ : ∃ s, s = (evI (xs.take j)) := ⟨_, rfl⟩
      have hbj := HBD.out j (by omega)
      rw [← hs] at hbj d1 HQ1
      rw [← hs] at HS
      have hjl : (j : Int) < xs.length := by omega
      have g1 := hq1.open_ 1
      have HB := Lib.hid hb
      have hr := rem_two x
      have hsw0 : IntKind.i64.wrap (1 - x % 2) = 1 - x % 2 := IntWalk.i64_in _ (by omega)
      have hsw : IntKind.i64.wrap (s + (1 - x % 2)) = s + (1 - x % 2) := IntWalk.i64_in _ (by omega)
      clear hx hs hq0 hq1 hb hr
      go_wp2
      go_roundw
      case rel => exact ⟨j + 1, by omega, by go_num, HQ0.out.off (by omega), by rw [HS.out]; exact HQ1.out.set_ 1 _, below_set HB.out (by omega)⟩
      case measure => simp [intOf]; omega
    · obtain rfl : j = xs.length := by omega
      rw [List.take_length] at d1
      have f0 := hq0.open_ 0
      have f1 := hq0.open_ 1
      have f2 := hq0.open_ 2
      obtain ⟨s, hs⟩ : ∃ s, s = evI xs := ⟨_, rfl⟩
      rw [← hs] at d1 HV
      have HB := Lib.hid hb
      clear hq0 hq1 hb hs
      go_wp2
      exact bodyPost_ret (v := .agg #[.int .i64 5, .int .i64 s, .int .i64 0]) (by simp [results, Try.results82, go_sem, c0, c1, c2, d0, d1, d2]) rfl ⟨by rw [HV.out]; rfl, below_set (below_set (below_set HB.out (by omega)) (by omega)) (by omega)⟩

theorem clOfC_far {k a : Int} {xs : List Int} (h0 : k ≠ 0) (h4 : k ≠ 4) : clOfC k a xs = (k, valC k 0 xs, 0) := if_neg (fun h => h.elim h0 h4)
theorem clOfC_near {k a : Int} {xs : List Int} (h : k = 0 ∨ k = 4) : clOfC k a xs = (k, a, valC k a xs) := if_pos h
theorem clueOf_any (k a : Int) (A : Option Addr) (n c : Nat) (xs : List Int) (w : World) (hA : Holds w A (nums xs)) (hx : xs.length = n) (hh : hidI xs = true) (hk0 : 0 ≤ k) (hk5 : k ≤ 5) (ha : k = 0 ∨ k = 4 → 0 ≤ a ∧ a < n) :
    Calls Try.prog 82 #[.int .i64 k, .int .i64 a, .slice A n c] w fun e w' => e = .returned (.agg (clC (clOfC k a xs))) ∧ Below w.heap.size w w' := by
  rcases (show k = 0 ∨ k = 1 ∨ k = 2 ∨ k = 3 ∨ k = 4 ∨ k = 5 by omega) with rfl | rfl | rfl | rfl | rfl | rfl
  · exact clueOf_0 a A n c xs w hA hx hh (ha (.inl rfl))
  · exact clueOf_1 a A n c xs w hA hx hh
  · exact clueOf_2 a A n c xs w hA hx hh
  · exact clueOf_3 a A n c xs w hA hx hh
  · exact clueOf_4 a A n c xs w hA hx hh (ha (.inr rfl))
  · exact clueOf_5 a A n c xs w hA hx hh
end Go.Proofs.Ytcoagbcleccmmaa

namespace Go.Proofs.Ytcoagbcleccmmaa
open Go.RowKit

/-- Two clues compared. -/
def sameCl (k a b k' a' b' : Int) : Bool := k == k' && a == a' && b == b'
set_option maxHeartbeats 1600000 in
@[go_sem high] theorem clue_eq (k a b k' a' b' : Int) (w : World) : (Op.equalIn 10000 25 (.agg #[.int .i64 k, .int .i64 a, .int .i64 b]) (.agg #[.int .i64 k', .int .i64 a', .int .i64 b'])).run Try.prog w = .ok (sameCl k a b k' a' b') w := by
  unfold sameCl
  go_simp
  by_cases h0 : k = k'
  · subst h0
    by_cases h1 : a = a'
    · subst h1
      by_cases h2 : b = b'
      · subst h2; simp
      · simp [h2]
    · simp [h1]
  · simp [h0]
theorem same_fit {p k a b : Int} {xs : List Int} (hc : clOk p (k, a, b) = true) : sameCl k a b (clOfC k a xs).1 (clOfC k a xs).2.1 (clOfC k a xs).2.2 = fitC (k, a, b) xs := by
  by_cases h : k = 0 ∨ k = 4
  · rw [clOfC_near h, fitC, if_pos h]
    simp [sameCl, eq_comm]
    rfl
  · have h0 : k ≠ 0 := fun e => h (.inl e)
    have h4 : k ≠ 4 := fun e => h (.inr e)
    have hb := clOk_rest hc h0 h4
    subst hb
    rw [clOfC_far h0 h4, fitC, if_neg h]
    simp [sameCl, eq_comm]
    rfl

set_option maxHeartbeats 1600000 in
theorem fits_any (p k a b : Int) (A : Option Addr) (n c : Nat) (xs : List Int) (w : World) (hA : Holds w A (nums xs)) (hx : xs.length = n) (hh : hidI xs = true) (hc : clOk p (k, a, b) = true) (hp : p = n) :
    Calls Try.prog 64 #[.agg #[.int .i64 k, .int .i64 a, .int .i64 b], .slice A n c] w fun e w' => e = .returned (.bool (fitC (k, a, b) xs)) ∧ Below w.heap.size w w' := by
  obtain ⟨hk0, hk5⟩ := clOk_kind hc
  have HS := Lib.hid (same_fit (xs := xs) hc)
  have hper : k = 0 ∨ k = 4 → 0 ≤ a ∧ a < n := fun h => by have := clOk_person hc h; omega
  have hw0 := Whole.fresh w 25 #[.int .i64 k, .int .i64 a, .int .i64 b]
  have hbl := below1 w (.cells #[.int .i64 k, .int .i64 a, .int .i64 b] 25)
  obtain ⟨W, hW⟩ : ∃ W, W = w.alloc (.cells #[.int .i64 k, .int .i64 a, .int .i64 b] 25) := ⟨_, rfl⟩
  have hAW : Holds W A (nums xs) := by rw [hW]; exact hA.below hbl
  rw [← hW] at hw0 hbl
  have HCALL := Lib.hid (fun (q : World) (hq : Below W.heap.size W q) => clueOf_any k a A n c xs q (hAW.below hq) hx hh hk0 hk5 hper)
  have HB := Lib.hid hbl
  have H0 := Lib.hid hw0
  have HWW := Lib.hid hW
  obtain ⟨c0, c1, c2⟩ := hw0.cells3
  have hlt := hw0.lt
  obtain ⟨⟨y1, y2, y3⟩, hy⟩ : ∃ y, y = clOfC k a xs := ⟨_, rfl⟩
  rw [← hy] at HS HCALL
  dsimp only at HS
  clear hbl hA hAW hW hx hc hp hw0 hper hy
  go_enter Try.func64, Try.ntmps64
  go_wp2_with fail
  rw [← HWW.out]
  go_region_held3 (fun w' => w'.cell? ⟨w.heap.size, 0, none⟩ = some (.int .i64 k) ∧ w'.cell? ⟨w.heap.size, 1, none⟩ = some (.int .i64 a) ∧ w'.cell? ⟨w.heap.size, 2, none⟩ = some (.int .i64 b)) (go_keep)
    (first | (go_at_call 82; refine (HCALL.out _ (Below.refl _ _).drew).mono ?_; rintro e w2 ⟨rfl, hb2⟩; simp only [clC]; have hb3 : Below W.heap.size W w2 := below_then (Below.refl W.heap.size W).drew hb2 (Nat.le_refl _); have hc3 := H0.out.below hb3; obtain ⟨e0, e1, e2⟩ := hc3.cells3; have HB3 := Lib.hid (below_then HB.out hb3 HB.out.size); clear hb2 hb3 hc3) | fail)
  go_wp2
  go_ret
  exact ⟨ret_of (by rw [← HS.out]; rfl), HB3.out⟩

/-- Do hidden times and a clue of as many people belong together? -/
def dfOk (xs : List Int) (c : Cl) : Bool := hidI xs && clOk xs.length c
theorem hid_within {xs : List Int} (h : hidI xs = true) : within xs.length 1 4 = true := by
  obtain ⟨h1, h4, -⟩ := hidI_parts h
  exact within_yes (by omega) (by omega)

set_option maxHeartbeats 1600000 in
theorem specDoesFit_any (k a b : Int) (A : Option Addr) (n c : Nat) (xs : List Int) (w : World) (hA : Holds w A (nums xs)) (hx : xs.length = n) (hn : n ≤ 1048576) :
    Calls Try.prog 29 #[.agg #[.int .i64 k, .int .i64 a, .int .i64 b], .slice A n c] w fun e w' => e = .returned (.tuple #[.bool (dfOk xs (k, a, b) && fitC (k, a, b) xs), .bool (dfOk xs (k, a, b))]) ∧ Below w.heap.size w w' := by
  subst hx
  have hw0 := Whole.fresh w 25 #[.int .i64 k, .int .i64 a, .int .i64 b]
  have hbl := below1 w (.cells #[.int .i64 k, .int .i64 a, .int .i64 b] 25)
  obtain ⟨W, hW⟩ : ∃ W, W = w.alloc (.cells #[.int .i64 k, .int .i64 a, .int .i64 b] 25) := ⟨_, rfl⟩
  have hAW : Holds W A (nums xs) := by rw [hW]; exact hA.below hbl
  rw [← hW] at hw0 hbl
  have HAW := Lib.hid hAW
  have HB := Lib.hid hbl
  have H0 := Lib.hid hw0
  have HWW := Lib.hid hW
  clear hbl hA hAW hW hw0
  cases hh : hidI xs
  · have HH := Lib.hid hh
    have HP : Hid (dfOk xs (k, a, b) = false) := by show _ = _; rw [dfOk, hh]; rfl
    clear hh
    go_enter Try.func29, Try.ntmps29
    go_wp2_with fail
    rw [← HWW.out]
    refine (pzHidden_any A _ c xs _ HAW.out rfl hn).mono ?_
    rintro e w2 ⟨rfl, q, rfl⟩
    rw [HH.out]
    go_wp2
    go_ret2
    rw [HP.out]
    exact ⟨rfl, below_draws HB.out q⟩
  · have HH := Lib.hid hh
    obtain ⟨h1, h4, -⟩ := hidI_parts hh
    have HP : Hid (dfOk xs (k, a, b) = clOk xs.length (k, a, b)) := by show _ = _; rw [dfOk, hh]; rfl
    cases hc : clOk xs.length (k, a, b)
    · have HC := Lib.hid hc
      clear hh hc
      go_enter Try.func29, Try.ntmps29
      go_wp2_with fail
      rw [← HWW.out]
      refine (pzHidden_any A _ c xs _ HAW.out rfl hn).mono ?_
      rintro e w2 ⟨rfl, q, rfl⟩
      rw [HH.out]
      have hq := below_draws HB.out q
      obtain ⟨c0, c1, c2⟩ := (H0.out.below (below_draws (Below.refl W.heap.size W) q)).cells3
      have HQ := Lib.hid hq
      clear hq
      go_wp2_with fail
      refine (pzClue_any _ (k, a, b) _ (by omega) (by omega)).mono ?_
      rintro e w3 ⟨rfl, hb3⟩
      rw [HC.out]
      have HF := Lib.hid (below_then HQ.out hb3 HQ.out.size)
      clear hb3
      go_wp2
      go_ret2
      rw [HP.out, HC.out]
      exact ⟨rfl, HF.out⟩
    · have HC := Lib.hid hc
      clear hc
      go_enter Try.func29, Try.ntmps29
      go_wp2_with fail
      rw [← HWW.out]
      refine (pzHidden_any A _ c xs _ HAW.out rfl hn).mono ?_
      rintro e w2 ⟨rfl, q, rfl⟩
      rw [HH.out]
      have hq := below_draws HB.out q
      have hbq := below_draws (Below.refl W.heap.size W) q
      have hc2 := H0.out.below hbq
      obtain ⟨c0, c1, c2⟩ := hc2.cells3
      have HQ := Lib.hid hq
      have HC2 := Lib.hid hc2
      have HA2 := Lib.hid (HAW.out.below hbq)
      clear hq hbq hc2
      go_wp2_with fail
      refine (pzClue_any _ (k, a, b) _ (by omega) (by omega)).mono ?_
      rintro e w3 ⟨rfl, hb3⟩
      rw [HC.out]
      have hc3 := HC2.out.below hb3
      clear c0 c1 c2
      obtain ⟨c0, c1, c2⟩ := hc3.cells3
      have HA3 := Lib.hid (HA2.out.below hb3)
      have HF := Lib.hid (below_then HQ.out hb3 HQ.out.size)
      clear hb3 hc3
      go_wp2_with fail
      refine (pzFits_any _ k a b A _ c xs _ HA3.out rfl hh HC.out rfl).mono ?_
      rintro e w4 ⟨rfl, hb4⟩
      have HG := Lib.hid (below_then HF.out hb4 HF.out.size)
      clear hb4
      go_wp2
      go_ret2
      rw [HP.out, HC.out]
      exact ⟨rfl, HG.out⟩

set_option maxHeartbeats 1600000 in
theorem implDoesFit_any (k a b : Int) (A : Option Addr) (n c : Nat) (xs : List Int) (w : World) (hA : Holds w A (nums xs)) (hx : xs.length = n) (hn : n ≤ 1048576) :
    Calls Try.prog 30 #[.agg #[.int .i64 k, .int .i64 a, .int .i64 b], .slice A n c] w fun e w' => e = .returned (.tuple #[.bool (dfOk xs (k, a, b) && fitC (k, a, b) xs), .bool (dfOk xs (k, a, b))]) ∧ Below w.heap.size w w' := by
  subst hx
  have hw0 := Whole.fresh w 25 #[.int .i64 k, .int .i64 a, .int .i64 b]
  have hbl := below1 w (.cells #[.int .i64 k, .int .i64 a, .int .i64 b] 25)
  obtain ⟨W, hW⟩ : ∃ W, W = w.alloc (.cells #[.int .i64 k, .int .i64 a, .int .i64 b] 25) := ⟨_, rfl⟩
  have hAW : Holds W A (nums xs) := by rw [hW]; exact hA.below hbl
  rw [← hW] at hw0 hbl
  have HAW := Lib.hid hAW
  have HB := Lib.hid hbl
  have H0 := Lib.hid hw0
  have HWW := Lib.hid hW
  clear hbl hA hAW hW hw0
  cases hh : hidI xs
  · have HH := Lib.hid hh
    have HP : Hid (dfOk xs (k, a, b) = false) := by show _ = _; rw [dfOk, hh]; rfl
    clear hh
    go_enter Try.func30, Try.ntmps30
    go_wp2_with fail
    rw [← HWW.out]
    refine (isHidden_any A _ c xs _ HAW.out rfl hn).mono ?_
    rintro e w2 ⟨rfl, q, rfl⟩
    rw [HH.out]
    go_wp2
    go_ret2
    rw [HP.out]
    exact ⟨rfl, below_draws HB.out q⟩
  · have HH := Lib.hid hh
    have HP : Hid (dfOk xs (k, a, b) = clOk xs.length (k, a, b)) := by show _ = _; rw [dfOk, hh]; rfl
    have HPO : Hid (pzOk xs.length [(k, a, b)] = clOk xs.length (k, a, b)) := by show _ = _; rw [pzOk_one, hid_within hh]; rfl
    cases hc : clOk xs.length (k, a, b)
    · have HC := Lib.hid hc
      clear hh hc
      go_enter Try.func30, Try.ntmps30
      go_wp2_with fail
      rw [← HWW.out]
      refine (isHidden_any A _ c xs _ HAW.out rfl hn).mono ?_
      rintro e w2 ⟨rfl, q, rfl⟩
      rw [HH.out]
      have hq := below_draws HB.out q
      obtain ⟨c0, c1, c2⟩ := (H0.out.below (below_draws (Below.refl W.heap.size W) q)).cells3
      have HQ := Lib.hid hq
      clear hq
      go_wp2_with fail
      refine (isClue_any _ k a b _).mono ?_
      rintro e w3 ⟨rfl, hb3⟩
      rw [HPO.out, HC.out]
      have HF := Lib.hid (below_then HQ.out hb3 HQ.out.size)
      clear hb3
      go_wp2
      go_ret2
      rw [HP.out, HC.out]
      exact ⟨rfl, HF.out⟩
    · have HC := Lib.hid hc
      clear hc
      go_enter Try.func30, Try.ntmps30
      go_wp2_with fail
      rw [← HWW.out]
      refine (isHidden_any A _ c xs _ HAW.out rfl hn).mono ?_
      rintro e w2 ⟨rfl, q, rfl⟩
      rw [HH.out]
      have hq := below_draws HB.out q
      have hbq := below_draws (Below.refl W.heap.size W) q
      have hc2 := H0.out.below hbq
      obtain ⟨c0, c1, c2⟩ := hc2.cells3
      have HQ := Lib.hid hq
      have HC2 := Lib.hid hc2
      have HA2 := Lib.hid (HAW.out.below hbq)
      clear hq hbq hc2
      go_wp2_with fail
      refine (isClue_any _ k a b _).mono ?_
      rintro e w3 ⟨rfl, hb3⟩
      rw [HPO.out, HC.out]
      have hc3 := HC2.out.below hb3
      clear c0 c1 c2
      obtain ⟨c0, c1, c2⟩ := hc3.cells3
      have HA3 := Lib.hid (HA2.out.below hb3)
      have HF := Lib.hid (below_then HQ.out hb3 HQ.out.size)
      clear hb3 hc3
      go_wp2_with fail
      refine (fits_any _ k a b A _ c xs _ HA3.out rfl hh HC.out rfl).mono ?_
      rintro e w4 ⟨rfl, hb4⟩
      have HG := Lib.hid (below_then HF.out hb4 HF.out.size)
      clear hb4
      go_wp2
      go_ret2
      rw [HP.out, HC.out]
      exact ⟨rfl, HG.out⟩
end Go.Proofs.Ytcoagbcleccmmaa

namespace Go.Proofs.Ytcoagbcleccmmaa
open Go.RowKit

set_option maxHeartbeats 800000 in
set_option linter.unusedVariables false in
theorem lawDoesFit_big0 (k0 : Int) (k1 : Int) (k2 : Int) (A0 : Option Addr) (n0 c0 : Nat) (x0 : List Int) (w : World) (h0 : Holds w A0 (nums x0)) (hx0 : x0.length = n0) (hn0 : n0 ≤ 9223372036854775807)  (hbig : (1048576 : Int) < n0) :
    Calls Try.prog 7 #[.agg #[.int .i64 k0, .int .i64 k1, .int .i64 k2], .slice A0 n0 c0] w fun e w' => e = .returned (.bool true) ∧ Below w.heap.size w w' := by
  have hb0 := (Whole.fresh w 23 #[.int .i64 k0, .int .i64 k1, .int .i64 k2])
  have ht := below1 w (.cells #[.int .i64 k0, .int .i64 k1, .int .i64 k2] 23)
  have HX0 := Lib.hid hx0
  clear hx0
  obtain ⟨hb0_0, hb0_1, hb0_2⟩ := hb0.cells3
  have hb0_l := hb0.lt
  go_enter Try.func7, Try.ntmps7
  go_wp2
  go_ret
  exact ⟨rfl, ht⟩

set_option maxHeartbeats 12800000 in
set_option maxRecDepth 100000 in
set_option linter.unusedSimpArgs false in
set_option linter.unusedVariables false in
theorem lawDoesFit_small (k0 : Int) (k1 : Int) (k2 : Int) (A0 : Option Addr) (n0 c0 : Nat) (x0 : List Int) (w : World) (h0 : Holds w A0 (nums x0)) (hx0 : x0.length = n0) (hn0 : n0 ≤ 9223372036854775807) (g0 : (n0 : Int) ≤ 1048576) :
    Calls Try.prog 7 #[.agg #[.int .i64 k0, .int .i64 k1, .int .i64 k2], .slice A0 n0 c0] w fun e w' => e = .returned (.bool true) ∧ Below w.heap.size w w' := by
  have hb0 := (Whole.fresh w 23 #[.int .i64 k0, .int .i64 k1, .int .i64 k2])
  have ht := below1 w (.cells #[.int .i64 k0, .int .i64 k1, .int .i64 k2] 23)
  have HX0 := Lib.hid hx0
  clear hx0
  obtain ⟨hb0_0, hb0_1, hb0_2⟩ := hb0.cells3
  have hb0_l := hb0.lt
  go_enter Try.func7, Try.ntmps7
  -- region 3
  go_wp2_with fail
  refine (toClue_any k0 k1 k2 _).mono ?_
  rintro e v1 ⟨rfl, hb⟩
  have hz1 : w.heap.size + 1 ≤ v1.heap.size := by have := hb.size; simpa using this
  replace ht := below_then ht hb ht.size
  replace hb0 := hb0.below hb
  clear hb
  clear hb0_0 hb0_1 hb0_2 hb0_l
  obtain ⟨hb0_0, hb0_1, hb0_2⟩ := hb0.cells3
  have hb0_l := hb0.lt
  go_wp2_with fail
  refine (toIntS_own A0 n0 c0 x0 _ (by exact h0.below ht) HX0.out (by omega)).mono ?_
  rintro e v2 ⟨gp0, rfl, hgp0, hwp0, hb⟩
  have hz2 : v1.heap.size ≤ v2.heap.size := by have := hb.size; simpa using this
  replace ht := below_then ht hb ht.size
  replace hb0 := hb0.below hb
  have hp0 := Fresh.of_whole (lo := v1.heap.size) (hi := v2.heap.size) hwp0 (by simpa using hgp0) hwp0.lt
  clear hgp0 hwp0
  clear hb
  clear hb0_0 hb0_1 hb0_2 hb0_l
  obtain ⟨hb0_0, hb0_1, hb0_2⟩ := hb0.cells3
  have hb0_l := hb0.lt
  go_wp2_with fail
  refine (specDoesFit_any k0 k1 k2 _ n0 _ x0 _ (by exact hp0.holds) HX0.out (by omega)).mono ?_
  rintro e v3 ⟨rfl, hb⟩
  have hz3 : v2.heap.size ≤ v3.heap.size := by have := hb.size; simpa using this
  replace ht := below_then ht hb ht.size
  replace hb0 := hb0.below hb
  replace hp0 := hp0.below hb
  clear hb
  clear hp0
  clear hb0_0 hb0_1 hb0_2 hb0_l
  obtain ⟨hb0_0, hb0_1, hb0_2⟩ := hb0.cells3
  have hb0_l := hb0.lt
  -- region 4
  go_wp2_with fail
  refine (toIntS_own A0 n0 c0 x0 _ (by exact h0.below ht) HX0.out (by omega)).mono ?_
  rintro e v4 ⟨gx0, rfl, hgx0, hwx0, hb⟩
  have hz4 : v3.heap.size ≤ v4.heap.size := by have := hb.size; simpa using this
  replace ht := below_then ht hb ht.size
  replace hb0 := hb0.below hb
  have hx0 := Fresh.of_whole (lo := v3.heap.size) (hi := v4.heap.size) hwx0 (by simpa using hgx0) hwx0.lt
  clear hgx0 hwx0
  clear hb
  clear hb0_0 hb0_1 hb0_2 hb0_l
  obtain ⟨hb0_0, hb0_1, hb0_2⟩ := hb0.cells3
  have hb0_l := hb0.lt
  -- region 5
  go_wp2_with fail
  refine (toClue_any k0 k1 k2 _).mono ?_
  rintro e v5 ⟨rfl, hb⟩
  have hz5 : v4.heap.size ≤ v5.heap.size := by have := hb.size; simpa using this
  replace ht := below_then ht hb ht.size
  replace hb0 := hb0.below hb
  replace hx0 := hx0.below hb
  clear hb
  clear hb0_0 hb0_1 hb0_2 hb0_l
  obtain ⟨hb0_0, hb0_1, hb0_2⟩ := hb0.cells3
  have hb0_l := hb0.lt
  go_wp2_with fail
  refine (implDoesFit_any k0 k1 k2 _ n0 _ x0 _ (by exact hx0.holds) HX0.out (by omega)).mono ?_
  rintro e v6 ⟨rfl, hb⟩
  have hz6 : v5.heap.size ≤ v6.heap.size := by have := hb.size; simpa using this
  replace ht := below_then ht hb ht.size
  replace hb0 := hb0.below hb
  replace hx0 := hx0.below hb
  clear hb
  clear hb0_0 hb0_1 hb0_2 hb0_l
  obtain ⟨hb0_0, hb0_1, hb0_2⟩ := hb0.cells3
  have hb0_l := hb0.lt
  -- region 8
  go_wp2_with fail
  refine (toIntS_own A0 n0 c0 x0 _ (by exact h0.below ht) HX0.out (by omega)).mono ?_
  rintro e v7 ⟨gy0, rfl, hgy0, hwy0, hb⟩
  have hz7 : v6.heap.size ≤ v7.heap.size := by have := hb.size; simpa using this
  replace ht := below_then ht hb ht.size
  replace hb0 := hb0.below hb
  replace hx0 := hx0.below hb
  have hy0 := Fresh.of_whole (lo := v6.heap.size) (hi := v7.heap.size) hwy0 (by simpa using hgy0) hwy0.lt
  clear hgy0 hwy0
  clear hb
  clear hb0_0 hb0_1 hb0_2 hb0_l
  obtain ⟨hb0_0, hb0_1, hb0_2⟩ := hb0.cells3
  have hb0_l := hb0.lt
  go_wp2_with fail
  refine (eqIntS_yes _ _ n0 _ _ x0 _ (by exact hx0.holds) (by exact hy0.holds) HX0.out (by omega)).mono ?_
  rintro e v8 ⟨rfl, hb⟩
  have hz8 : v7.heap.size ≤ v8.heap.size := by have := hb.size; simpa using this
  replace ht := below_then ht hb ht.size
  replace hb0 := hb0.below hb
  replace hx0 := hx0.below hb
  replace hy0 := hy0.below hb
  clear hb
  clear hy0
  clear hb0_0 hb0_1 hb0_2 hb0_l
  obtain ⟨hb0_0, hb0_1, hb0_2⟩ := hb0.cells3
  have hb0_l := hb0.lt
  go_wp2
  go_ret
  exact ⟨rfl, ht⟩

theorem lawDoesFit_all (k0 : Int) (k1 : Int) (k2 : Int) (A0 : Option Addr) (n0 c0 : Nat) (x0 : List Int) (w : World) (h0 : Holds w A0 (nums x0)) (hx0 : x0.length = n0) (hn0 : n0 ≤ 9223372036854775807) :
    Calls Try.prog 7 #[.agg #[.int .i64 k0, .int .i64 k1, .int .i64 k2], .slice A0 n0 c0] w fun e w' => e = .returned (.bool true) ∧ Below w.heap.size w w' := by
  rcases (inferInstance : Decidable ((n0 : Int) ≤ 1048576)) with g0 | g0
  · exact lawDoesFit_big0 k0 k1 k2 A0 n0 c0 x0 w h0 hx0 hn0  (by omega)
  exact lawDoesFit_small k0 k1 k2 A0 n0 c0 x0 w h0 hx0 hn0 g0
end Go.Proofs.Ytcoagbcleccmmaa
