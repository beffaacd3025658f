/-
  What is proved: contracts of the time of trips together, of the model (paSum) and of the program (addUp with slowest). Conditions: the trips are some of this party's; at most forty.
-/
import Derived.Test.YtionmcgaicijkaaIsPlan
namespace Go.Proofs.Ytionmcgaicijkaa
open Go.RowKit

/-- The times of trips together. -/
def sumSlow (xs : List Int) (ls : List (List Int)) : Int := (ls.map (slowOf xs)).sum
theorem sumSlow_next {xs : List Int} {ls : List (List Int)} {k : Nat} (hk : k < ls.length) : sumSlow xs (ls.take (k + 1)) = sumSlow xs (ls.take k) + slowOf xs ls[k] := by
  rw [sumSlow, sumSlow, List.take_succ_eq_append_getElem hk, List.map_append, List.sum_append]
  simp
theorem slowOf_bd {xs : List Int} {s : Int} (h : isParty xs s = true) (l : List Int) : 0 ≤ slowOf xs l ∧ slowOf xs l ≤ 1000 := by
  constructor
  · exact ((slowOf_le xs l _).1 (Int.le_refl _)).1
  · rw [slowOf_le]
    refine ⟨by omega, fun x _ => ?_⟩
    by_cases hx : x.toNat < xs.length
    · have h1 := h
      simp only [isParty, Bool.and_eq_true] at h1
      have h2 := (allIn_iff xs 1 1000).1 h1.2.1 _ (List.getElem_mem hx)
      simp [hx]
      omega
    · simp [hx]
theorem sumSlow_bd {xs : List Int} {s : Int} (h : isParty xs s = true) (ls : List (List Int)) : 0 ≤ sumSlow xs ls ∧ sumSlow xs ls ≤ 1000 * ls.length := by
  induction ls with
  | nil => simp [sumSlow]
  | cons l ls ih =>
    have := slowOf_bd h l
    simp only [sumSlow, List.map_cons, List.sum_cons, List.length_cons] at ih ⊢
    omega
theorem take_le' {α : Type} (l : List α) (k : Nat) : (l.take k).length ≤ l.length := by simp; omega

/-- All trips are some of this party's. -/
def AllTrips (n : Nat) (ls : List (List Int)) : Prop := ∀ k (h : k < ls.length), StepsTo ls[k] (n - 1) ls[k].length
theorem made_trips {n : Nat} {s : Int} : ∀ {ls : List (List Int)} {bs : List Bool} {t : Bool}, made n s bs t ls = ls.length → AllTrips n ls
  | [], _, _, _ => fun k h => by simp at h
  | l :: ls, bs, t, h => by
    rw [made] at h
    by_cases hc : canGo n s bs t l = true
    · rw [if_pos hc] at h
      have ih := made_trips (ls := ls) (by simpa using h)
      intro k hk
      cases k with
      | zero => exact can_steps hc
      | succ k => exact ih k (by simpa using hk)
    · rw [if_neg hc] at h
      simp at h
theorem plan_trips {n : Nat} {s : Int} {ls : List (List Int)} (h : isPlan n s ls = true) : ls.length ≤ 40 ∧ AllTrips n ls := by
  simp only [isPlan, Bool.and_eq_true, decide_eq_true_eq] at h
  exact ⟨h.1, made_trips h.2.1⟩

set_option maxHeartbeats 800000 in
theorem paSum_any (A D : Option Addr) (n c q z : Nat) (xs : List Int) (rs : List RowV) (s s' : Int) (w : World) (hA : Holds w A (nums xs)) (hD : Grid w D rs) (hx : xs.length = n) (hz : rs.length = q) (hn : n ≤ 9223372036854775807) (hq : q ≤ 40) (hp : isParty xs s' = true) (ht : AllTrips n (rowNums rs)) :
    Calls Try.prog 73 #[.agg #[.slice A n c, .int .i64 s], .slice D q z] w fun e w' => e = .returned (.int .i64 (sumSlow xs (rowNums rs))) ∧ Below w.heap.size w w' := by
  have HX := Lib.hid hx
  have HZ := Lib.hid hz
  have HP := Lib.hid hp
  have HT := Lib.hid ht
  have HLS := Lib.hid (rowNums_len rs)
  have h0 := Whole.fresh w 33 #[.slice A n c, .int .i64 s]
  have hbw := below1 w (.cells #[.slice A n c, .int .i64 s] 33)
  have HBW := Lib.hid hbw
  have H0 := Lib.hid h0
  clear hx hz hp ht hbw h0
  go_enter Try.func73, Try.ntmps73
  go_wp2
  go_loopw [5, 10] (fun v i wr => ∃ k : Nat, k ≤ q ∧ i = .int .i64 k ∧ v = .int .i64 (sumSlow xs ((rowNums rs).take k)) ∧ Whole wr w.heap.size 33 #[.slice A n c, .int .i64 s] ∧ Below w.heap.size w wr) (fun _ i _ => q - (intOf i).toNat)
  case atStart => exact ⟨0, Nat.zero_le _, rfl, rfl, H0.out, HBW.out⟩
  case round =>
    obtain ⟨k, hk, rfl, rfl, h0, hb⟩ := hrel
    clear H0 HBW
    obtain ⟨c0, c1, -, -⟩ := h0.two
    by_cases hlt : k < q
    · have hkr : k < rs.length := by have := HZ.out; omega
      have hkl : k < (rowNums rs).length := by have := HLS.out; omega
      obtain ⟨b1, o1, rfl, hbl1, hc, hok⟩ := (hD.below hb).look hkr
      have hst := HT.out k hkl
      rw [rowNums_get hkr] at hst
      have hA1 := hA.below hb
      have hs0 := sumSlow_bd HP.out ((rowNums rs).take k)
      have hs1 := slowOf_bd HP.out rs[k].xs
      have hlen : ((rowNums rs).take k).length ≤ 40 := by have := HLS.out; have := HZ.out; simp; omega
      have hs2 := hs0.1
      have hs3 : sumSlow xs ((rowNums rs).take k) ≤ 40000 := by omega
      have hs4 := hs1.1
      have hs5 := hs1.2
      have HNX := Lib.hid (show sumSlow xs ((rowNums rs).take (k + 1)) = sumSlow xs ((rowNums rs).take k) + slowOf xs rs[k].xs by rw [sumSlow_next hkl, rowNums_get hkr])
      have HST := Lib.hid hst
      clear hs0 hs1 hlen hst
      go_wp2_with fail
      refine (paTime_any A _ n c _ _ xs _ s _ hA1 HX.out hok.1 hok.2.1 hok.2.2 hn HST.out).mono ?_
      rintro e w1 ⟨rfl, hb1⟩
      have h1 := h0.below hb1
      have hbb := below_then hb hb1 hb.size
      clear hb hb1 h0 hA1 hok c0 c1
      go_wp2
      go_roundw
      case rel => exact ⟨k + 1, by omega, by go_num, by rw [HNX.out], h1, hbb⟩
      case measure => simp [intOf]; omega
    · have hkn : k = q := by omega
      subst hkn
      have HTK := Lib.hid (List.take_of_length_le (l := rowNums rs) (i := k) (by have := HLS.out; have := HZ.out; omega))
      clear c0 c1
      go_wp2
      go_ret
      exact ⟨ret_of (by rw [HTK.out]; rfl), hb⟩

theorem crowdsOf_at {ls : List (List Int)} {k j : Nat} (hk : k < ls.length) (hj : j < 8) : (crowdsOf ls)[k * 8 + j]? = some (.bool (has ls[k] j)) := by
  induction ls generalizing k with
  | nil => simp at hk
  | cons l ls ih =>
    have h8 : (crowdCells l).toList.length = 8 := by simp [crowdCells]
    simp only [crowdsOf, List.flatMap_cons]
    cases k with
    | zero =>
      rw [List.getElem?_append_left (by rw [h8]; omega)]
      simp only [Nat.zero_mul, Nat.zero_add, List.getElem_cons_zero]
      match j, hj with
      | 0, _ => rfl
      | 1, _ => rfl
      | 2, _ => rfl
      | 3, _ => rfl
      | 4, _ => rfl
      | 5, _ => rfl
      | 6, _ => rfl
      | 7, _ => rfl
    | succ k =>
      rw [List.getElem?_append_right (by rw [h8]; omega), h8]
      have := ih (k := k) (by simpa using hk)
      simp only [List.getElem_cons_succ]
      rw [← this, crowdsOf]
      congr 1
      omega
theorem crowd_row {w : World} {b o : Nat} {ls : List (List Int)} {k : Nat} (h : ∀ j u, (crowdsOf ls)[j]? = some u → w.cell? ⟨b, o + j, none⟩ = some u) (hk : k < ls.length) :
    w.cell? ⟨b, o + k * 8, none⟩ = some (.bool (has ls[k] 0)) ∧ w.cell? ⟨b, o + k * 8 + 1, none⟩ = some (.bool (has ls[k] 1)) ∧ w.cell? ⟨b, o + k * 8 + 2, none⟩ = some (.bool (has ls[k] 2)) ∧ w.cell? ⟨b, o + k * 8 + 3, none⟩ = some (.bool (has ls[k] 3)) ∧ w.cell? ⟨b, o + k * 8 + 4, none⟩ = some (.bool (has ls[k] 4)) ∧ w.cell? ⟨b, o + k * 8 + 5, none⟩ = some (.bool (has ls[k] 5)) ∧ w.cell? ⟨b, o + k * 8 + 6, none⟩ = some (.bool (has ls[k] 6)) ∧ w.cell? ⟨b, o + k * 8 + 7, none⟩ = some (.bool (has ls[k] 7)) :=
  ⟨h _ _ (crowdsOf_at hk (j := 0) (by omega)), by rw [Nat.add_assoc]; exact h _ _ (crowdsOf_at hk (j := 1) (by omega)), by rw [Nat.add_assoc]; exact h _ _ (crowdsOf_at hk (j := 2) (by omega)), by rw [Nat.add_assoc]; exact h _ _ (crowdsOf_at hk (j := 3) (by omega)), by rw [Nat.add_assoc]; exact h _ _ (crowdsOf_at hk (j := 4) (by omega)), by rw [Nat.add_assoc]; exact h _ _ (crowdsOf_at hk (j := 5) (by omega)), by rw [Nat.add_assoc]; exact h _ _ (crowdsOf_at hk (j := 6) (by omega)), by rw [Nat.add_assoc]; exact h _ _ (crowdsOf_at hk (j := 7) (by omega))⟩
/-- Where the trips' own list lies, it is read as they are. -/
theorem own_holds {w : World} {base size : Nat} {e : TypeId} {T : Option Addr} {n c : Nat} {xs : List Value} (h : w.ownsRow base e size (.slice T n c) n xs) : Holds w T xs := by
  obtain ⟨hl, ⟨-, hn⟩ | ⟨g, cap, cur, hv, -, hh, h1, h2, h3, h4⟩⟩ := h
  · subst hn
    exact .inl (List.eq_nil_of_length_eq_zero (by simpa using hl))
  · obtain ⟨rfl, -⟩ : T = some ⟨g, 0, none⟩ ∧ c = cap := by simpa using hv
    have hw : Whole w g e cur := hh
    refine .inr ⟨g, 0, rfl, hw.lt, fun j u hu => ?_⟩
    have hj : j < xs.length := (List.getElem?_eq_some_iff.1 hu).1
    rw [Nat.zero_add, hw.cell j, ← hu]
    rw [hl] at hj
    have := congrArg (fun l : List Value => l[j]?) h4
    simpa [List.getElem?_take, hj] using this

set_option maxHeartbeats 1600000 in
set_option maxRecDepth 100000 in
theorem addUpSlow_any (T A : Option Addr) (q c n d : Nat) (xs : List Int) (ls : List (List Int)) (s : Int) (w : World) (hT : Holds w T (crowdsOf ls)) (hq : ls.length = q) (hA : Holds w A (nums xs)) (hx : xs.length = n) (hn : n ≤ 8) (h40 : q ≤ 40) (hp : isParty xs s = true) (ht : AllTrips n ls) :
    Calls Try.prog 75 #[.slice T q c, .func (.func 76) #[] #[], .slice A n d] w fun e w' => e = .returned (.int .i64 (sumSlow xs ls)) ∧ Below w.heap.size w w' := by
  have HX := Lib.hid hx
  have HQ := Lib.hid hq
  have HP := Lib.hid hp
  have HT := Lib.hid ht
  clear hx hq hp ht
  go_enter Try.func75, Try.ntmps75
  go_wp2
  go_loopw [7, 12] (fun v i wr => ∃ k : Nat, k ≤ q ∧ i = .int .i64 k ∧ v = .int .i64 (sumSlow xs (ls.take k)) ∧ Below w.heap.size w wr) (fun _ i _ => q - (intOf i).toNat)
  case atStart => exact ⟨0, Nat.zero_le _, rfl, rfl, Below.refl _ _⟩
  case round =>
    obtain ⟨k, hk, rfl, rfl, hb⟩ := hrel
    by_cases hlt : k < q
    · have hkl : k < ls.length := by have := HQ.out; omega
      obtain ⟨b1, o1, rfl, hbl1, hcells⟩ := (hT.below hb).spot (by rw [crowdsOf_len]; omega)
      have hst := HT.out k hkl
      have hA1 := hA.below hb
      have hs0 := sumSlow_bd HP.out (ls.take k)
      have hs1 := slowOf_bd HP.out ls[k]
      have hlen : (ls.take k).length ≤ 40 := by have := HQ.out; simp; omega
      have hs2 := hs0.1
      have hs3 : sumSlow xs (ls.take k) ≤ 40000 := by omega
      have hs4 := hs1.1
      have hs5 := hs1.2
      have HNX := Lib.hid (sumSlow_next (xs := xs) hkl)
      have HSM := Lib.hid (slow_same (xs := xs) hst)
      obtain ⟨e0, e1, e2, e3, e4, e5, e6, e7⟩ := crowd_row hcells hkl
      clear hs0 hs1 hlen hst hcells
      go_wp2_with fail
      refine (slowest_any A n d xs ls[k] _ (hA1.alloc _) HX.out hn).mono ?_
      rintro e w1 ⟨rfl, hb1⟩
      rw [HSM.out]
      have hbb := below_then (hb.alloc hb.size (.cells (crowdCells ls[k]) 80)) hb1 (by have := hb.size; simp; omega)
      clear hb hb1 hA1 e0 e1 e2 e3 e4 e5 e6 e7
      go_wp2
      go_roundw
      case rel => exact ⟨k + 1, by omega, by go_num, by rw [HNX.out], hbb⟩
      case measure => simp [intOf]; omega
    · have hkn : k = q := by omega
      subst hkn
      have HTK := Lib.hid (List.take_of_length_le (l := ls) (i := k) (by have := HQ.out; omega))
      go_wp2
      go_ret
      exact ⟨ret_of (by rw [HTK.out]; rfl), hb⟩

set_option maxHeartbeats 400000 in
theorem addUpSlow_nil (v u : Value) (w : World) :
    Calls Try.prog 75 #[.slice none 0 0, v, u] w fun e w' => e = .returned (.int .i64 0) ∧ Below w.heap.size w w' := by
  go_enter Try.func75, Try.ntmps75
  go_wp2
  refine wp_loop_rounds 1 ?_
  rw [rounds_succ]
  go_wp2
  go_ret
  exact ⟨rfl, Below.refl _ _⟩

noncomputable def planOk (xs : List Int) (n : Nat) (s : Int) (ls : List (List Int)) : Bool := isParty xs s && isPlan n s ls
noncomputable def planTime (xs : List Int) (n : Nat) (s : Int) (ls : List (List Int)) : Int := if planOk xs n s ls then sumSlow xs ls else 0
theorem planOk_parts {xs : List Int} {n : Nat} {s : Int} {ls : List (List Int)} (h : planOk xs n s ls = true) : isParty xs s = true ∧ isPlan n s ls = true := by simpa [planOk] using h

set_option maxHeartbeats 800000 in
set_option maxRecDepth 100000 in
theorem specPlanTime_any (A D : Option Addr) (n c q z : Nat) (xs : List Int) (rs : List RowV) (s : Int) (w : World) (hA : Holds w A (nums xs)) (hD : Grid w D rs) (hx : xs.length = n) (hz : rs.length = q) (hn : n ≤ 9223372036854775807) (hq : q ≤ 9223372036854775807) :
    Calls Try.prog 37 #[.agg #[.slice A n c, .int .i64 s], .slice D q z] w (FailPost (planTime xs n s (rowNums rs)) (planOk xs n s (rowNums rs)) w) := by
  have HX := Lib.hid hx
  have HZ := Lib.hid hz
  have HLS := Lib.hid (rowNums_len rs)
  have hA2 := hA.alloc (.cells #[.slice A n c, .int .i64 s] 33)
  have hD2 := hD.alloc (.cells #[.slice A n c, .int .i64 s] 33)
  have h0 := Whole.fresh w 33 #[.slice A n c, .int .i64 s]
  have hbw := below1 w (.cells #[.slice A n c, .int .i64 s] 33)
  cases hp : isParty xs s
  · have HP := Lib.hid hp
    have HF := Lib.hid (show planOk xs n s (rowNums rs) = false by simp [planOk, hp])
    clear hp hx hz
    go_enter Try.func37, Try.ntmps37
    go_wp2_with fail
    refine (paGood_any A n c xs s _ hA2 HX.out hn).mono ?_
    rintro e w1 ⟨rfl, hb⟩
    rw [HP.out]
    have ht := below_then hbw hb (by simp)
    clear hb
    go_wp2
    go_ret2
    exact ⟨by rw [planTime, HF.out]; rfl, ht⟩
  · have HP := Lib.hid hp
    have h8 := isParty_le hp
    have hpos := isParty_pos hp
    rw [hx] at h8 hpos
    clear hp hx hz
    cases hpl : isPlan n s (rowNums rs)
    all_goals
      have HL := Lib.hid hpl
      clear hpl
      go_enter Try.func37, Try.ntmps37
      go_wp2_with fail
      refine (paGood_any A n c xs s _ hA2 HX.out hn).mono ?_
      rintro e w1 ⟨rfl, hb⟩
      rw [HP.out]
      have ht := below_then hbw hb (by simp)
      have hD3 := hD2.below hb
      have hA3 := hA2.below hb
      have h1 := h0.below hb
      obtain ⟨c0, c1, -, -⟩ := h1.two
      clear hb h0
      go_wp2_with fail
      refine (paPlan_any A D n c q z rs s _ hD3 HZ.out hpos h8 hq).mono ?_
      rintro e w2 ⟨rfl, hb⟩
      rw [HL.out]
      replace ht := below_then ht hb ht.size
      have hD4 := hD3.below hb
      have hA4 := hA3.below hb
      have h2 := h1.below hb
      clear hb c0 c1 h1 hA3 hD3
      obtain ⟨c0, c1, -, -⟩ := h2.two
    · have HF := Lib.hid (show planOk xs n s (rowNums rs) = false by simp [planOk, HL.out])
      go_wp2
      go_ret2
      exact ⟨by rw [planTime, HF.out]; rfl, ht⟩
    · have HF := Lib.hid (show planOk xs n s (rowNums rs) = true by simp [planOk, HL.out, HP.out])
      have hpt := plan_trips HL.out
      have HPT := Lib.hid hpt.2
      have hq40 : q ≤ 40 := by have := hpt.1; have := HLS.out; have := HZ.out; omega
      clear hpt
      go_wp2_with fail
      refine (paSum_any A D n c q z xs rs s s _ hA4 hD4 HX.out HZ.out hn hq40 HP.out HPT.out).mono ?_
      rintro e w3 ⟨rfl, hb⟩
      replace ht := below_then ht hb ht.size
      clear hb c0 c1
      go_wp2
      go_ret2
      exact ⟨by rw [planTime, HF.out]; rfl, ht⟩

set_option maxHeartbeats 800000 in
set_option maxRecDepth 100000 in
theorem implPlanTime_any (A D : Option Addr) (n c q z : Nat) (xs : List Int) (rs : List RowV) (s : Int) (w : World) (hA : Holds w A (nums xs)) (hD : Grid w D rs) (hx : xs.length = n) (hz : rs.length = q) (hn : n ≤ 9223372036854775807) (hq : q ≤ 9223372036854775807) :
    Calls Try.prog 38 #[.agg #[.slice A n c, .int .i64 s], .slice D q z] w (FailPost (planTime xs n s (rowNums rs)) (planOk xs n s (rowNums rs)) w) := by
  have HX := Lib.hid hx
  have HZ := Lib.hid hz
  have HLS := Lib.hid (rowNums_len rs)
  have hA2 := hA.alloc (.cells #[.slice A n c, .int .i64 s] 33)
  have hD2 := hD.alloc (.cells #[.slice A n c, .int .i64 s] 33)
  have h0 := Whole.fresh w 33 #[.slice A n c, .int .i64 s]
  have hbw := below1 w (.cells #[.slice A n c, .int .i64 s] 33)
  clear hx hz
  go_enter Try.func38, Try.ntmps38
  go_wp2_with fail
  refine (planOf_any A D n c q z xs rs s _ hA2 hD2 HX.out HZ.out hn hq).mono ?_
  rintro e w1 ⟨⟨hp, T, c2, rfl, base, -, hown⟩ | ⟨hp, rfl⟩, hb⟩
  · have HF := Lib.hid (show planOk xs n s (rowNums rs) = true from hp)
    have hpp := planOk_parts HF.out
    have HP := Lib.hid hpp.1
    have hpt := plan_trips hpp.2
    have HPT := Lib.hid hpt.2
    have hq40 := hpt.1
    have h8 := isParty_le hpp.1
    rw [HX.out] at h8
    have ht := below_then hbw hb (by simp)
    have hA3 := hA2.below hb
    obtain ⟨c0, c1, -, -⟩ := (h0.below hb).two
    have hT := own_holds hown
    clear hp hb hD2 h0 hpt hpp hown
    go_wp2_with fail
    refine (addUpSlow_any T A _ _ n c xs (rowNums rs) s _ hT rfl hA3 HX.out h8 hq40 HP.out HPT.out).mono ?_
    rintro e w2 ⟨rfl, hb⟩
    replace ht := below_then ht hb ht.size
    clear hb c0 c1
    go_wp2
    go_ret2
    exact ⟨by rw [planTime, HF.out]; rfl, ht⟩
  · have HF := Lib.hid (show planOk xs n s (rowNums rs) = false from hp)
    have ht := below_then hbw hb (by simp)
    obtain ⟨c0, c1, -, -⟩ := (h0.below hb).two
    clear hp hb hD2 h0
    go_wp2_with fail
    refine (addUpSlow_nil _ _ _).mono ?_
    rintro e w2 ⟨rfl, hb⟩
    replace ht := below_then ht hb ht.size
    clear hb c0 c1
    go_wp2
    go_ret2
    exact ⟨by rw [planTime, HF.out]; rfl, ht⟩
theorem specPlanTime_on (A D : Option Addr) (n c q z : Nat) (xs : List Int) (rs : List RowV) (ls : List (List Int)) (s : Int) (w : World) (hA : Holds w A (nums xs)) (hD : Grid w D rs) (he : rowNums rs = ls) (hx : xs.length = n) (hz : rs.length = q) (hn : n ≤ 9223372036854775807) (hq : q ≤ 9223372036854775807) :
    Calls Try.prog 37 #[.agg #[.slice A n c, .int .i64 s], .slice D q z] w (FailPost (planTime xs n s ls) (planOk xs n s ls) w) := by
  subst he
  exact specPlanTime_any A D n c q z xs rs s w hA hD hx hz hn hq
theorem implPlanTime_on (A D : Option Addr) (n c q z : Nat) (xs : List Int) (rs : List RowV) (ls : List (List Int)) (s : Int) (w : World) (hA : Holds w A (nums xs)) (hD : Grid w D rs) (he : rowNums rs = ls) (hx : xs.length = n) (hz : rs.length = q) (hn : n ≤ 9223372036854775807) (hq : q ≤ 9223372036854775807) :
    Calls Try.prog 38 #[.agg #[.slice A n c, .int .i64 s], .slice D q z] w (FailPost (planTime xs n s ls) (planOk xs n s ls) w) := by
  subst he
  exact implPlanTime_any A D n c q z xs rs s w hA hD hx hz hn hq
end Go.Proofs.Ytionmcgaicijkaa
