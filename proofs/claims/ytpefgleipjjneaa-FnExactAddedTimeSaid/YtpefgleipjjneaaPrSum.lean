/-
  What is proved: contracts of the model's sums of the times of trips (paSum, prSum, prTime), and that they are the program's. Conditions: the trips are some of these people's; at most forty.
-/
import Derived.Test.YtpefgleipjjneaaPrTrips
import Derived.Test.YtpefgleipjjneaaPairI
import Derived.Test.YtpefgleipjjneaaCrowdOf
namespace Go.Proofs.Ytpefgleipjjneaa
open Go.RowKit

/-- The times of trips together. -/
def sumSlow (xs : List Int) (ls : List (List Int)) : Int := (ls.map (slowOf xs)).sum
theorem sumSlow_next {xs : List Int} {ls : List (List Int)} {k : Nat} (hk : k < ls.length) : sumSlow xs (ls.take (k + 1)) = sumSlow xs (ls.take k) + slowOf xs ls[k] := by
  rw [sumSlow, sumSlow, List.take_succ_eq_append_getElem hk, List.map_append, List.sum_append]
  simp
def AllTrips (n : Nat) (ls : List (List Int)) : Prop := ∀ k (h : k < ls.length), StepsTo ls[k] (n - 1) ls[k].length
theorem slowOf_bdG {xs : List Int} (h : ∀ y ∈ xs, 1 ≤ y ∧ y ≤ 1000) (l : List Int) : 0 ≤ slowOf xs l ∧ slowOf xs l ≤ 1000 := by
  constructor
  · exact ((slowOf_le xs l _).1 (Int.le_refl _)).1
  · rw [slowOf_le]
    refine ⟨by omega, fun x _ => ?_⟩
    by_cases hx : x.toNat < xs.length
    · have h2 := h _ (List.getElem_mem hx)
      simp [hx]
      omega
    · simp [hx]
theorem sumSlow_bdG {xs : List Int} (h : ∀ y ∈ xs, 1 ≤ y ∧ y ≤ 1000) (ls : List (List Int)) : 0 ≤ sumSlow xs ls ∧ sumSlow xs ls ≤ 1000 * ls.length := by
  induction ls with
  | nil => simp [sumSlow]
  | cons l ls ih =>
    have := slowOf_bdG h l
    simp only [sumSlow, List.map_cons, List.sum_cons, List.length_cons] at ih ⊢
    omega

set_option maxHeartbeats 800000 in
theorem paSumG_any (A D : Option Addr) (n c q z : Nat) (xs : List Int) (rs : List RowV) (s : Int) (w : World) (hA : Holds w A (nums xs)) (hD : Grid w D rs) (hx : xs.length = n) (hz : rs.length = q) (hn : n ≤ 9223372036854775807) (hq : q ≤ 40) (hp : ∀ y ∈ xs, 1 ≤ y ∧ y ≤ 1000) (ht : AllTrips n (rowNums rs)) :
    Calls Try.prog 29 #[.agg #[.slice A n c, .int .i64 s], .slice D q z] w fun e w' => e = .returned (.int .i64 (sumSlow xs (rowNums rs))) ∧ Below w.heap.size w w' := by
  have HX := Lib.hid hx
  have HZ := Lib.hid hz
  have HP := Lib.hid hp
  have HT := Lib.hid ht
  have HLS := Lib.hid (rowNums_len rs)
  have h0 := Whole.fresh w 50 #[.slice A n c, .int .i64 s]
  have hbw := below1 w (.cells #[.slice A n c, .int .i64 s] 50)
  have HBW := Lib.hid hbw
  have H0 := Lib.hid h0
  clear hx hz hp ht hbw h0
  go_enter Try.func29, Try.ntmps29
  go_wp2
  go_loopw [5, 10] (fun v i wr => ∃ k : Nat, k ≤ q ∧ i = .int .i64 k ∧ v = .int .i64 (sumSlow xs ((rowNums rs).take k)) ∧ Whole wr w.heap.size 50 #[.slice A n c, .int .i64 s] ∧ Below w.heap.size w wr) (fun _ i _ => q - (intOf i).toNat)
  case atStart => exact ⟨0, Nat.zero_le _, rfl, rfl, H0.out, HBW.out⟩
  case round =>
    obtain ⟨k, hk, rfl, rfl, h0, hb⟩ := hrel
    clear H0 HBW
    obtain ⟨c0, c1, -, -⟩ := h0.two
    by_cases hlt : k < q
    · have hkr : k < rs.length := by have := HZ.out; omega
      have hkl : k < (rowNums rs).length := by have := HLS.out; omega
      obtain ⟨b1, o1, rfl, hbl1, hc, hok⟩ := (hD.below hb).look hkr
      have hst := HT.out k hkl
      rw [rowNums_get hkr] at hst
      have hA1 := hA.below hb
      have hs0 := sumSlow_bdG HP.out ((rowNums rs).take k)
      have hs1 := slowOf_bdG HP.out rs[k].xs
      have hlen : ((rowNums rs).take k).length ≤ 40 := by have := HLS.out; have := HZ.out; simp; omega
      have hs2 := hs0.1
      have hs3 : sumSlow xs ((rowNums rs).take k) ≤ 40000 := by omega
      have hs4 := hs1.1
      have hs5 := hs1.2
      have HNX := Lib.hid (show sumSlow xs ((rowNums rs).take (k + 1)) = sumSlow xs ((rowNums rs).take k) + slowOf xs rs[k].xs by rw [sumSlow_next hkl, rowNums_get hkr])
      have HST := Lib.hid hst
      clear hs0 hs1 hlen hst
      go_wp2_with fail
      refine (paTime_any A _ n c _ _ xs _ s _ hA1 HX.out hok.1 hok.2.1 hok.2.2 hn HST.out).mono ?_
      rintro e w1 ⟨rfl, hb1⟩
      have h1 := h0.below hb1
      have hbb := below_then hb hb1 hb.size
      clear hb hb1 h0 hA1 hok c0 c1
      go_wp2
      go_roundw
      case rel => exact ⟨k + 1, by omega, by go_num, by rw [HNX.out], h1, hbb⟩
      case measure => simp [intOf]; omega
    · have hkn : k = q := by omega
      subst hkn
      have HTK := Lib.hid (List.take_of_length_le (l := rowNums rs) (i := k) (by have := HLS.out; have := HZ.out; omega))
      clear c0 c1
      go_wp2
      go_ret
      exact ⟨ret_of (by rw [HTK.out]; rfl), hb⟩


theorem slow_list {xs : List Int} {t : Pt} (h : OkT xs t) (hm : ∀ y ∈ xs, 1 ≤ y ∧ y ≤ 1000) : slowOf xs (listT t) = t.2.2 := by
  obtain ⟨⟨a1, a2, a3⟩, ⟨b1, b2, b3⟩, h3⟩ := h
  have g : ∀ i : Int, 0 ≤ i → i < xs.length → 1 ≤ tm xs i := fun i h1 h2 => by
    have hx : i.toNat < xs.length := by omega
    have := hm _ (List.getElem_mem hx)
    simp only [tm, List.getD_eq_getElem?_getD, List.getElem?_eq_getElem hx, Option.getD_some]
    omega
  have ga := g _ a2 a3
  have gb := g _ b2 b3
  have hf : ∀ l : List Int, slowOf xs l = (l.map (tm xs)).foldl max 0 := fun l => rfl
  rw [hf]
  rcases h3 with h3 | ⟨h3, h4⟩
  · have : listT t = [t.2.1] := by
      obtain ⟨t1, t2⟩ := t
      obtain rfl : t1 = t2 := h3
      simp [listT, isAlone]
    rw [this]
    show max 0 (tm xs t.2.1) = _
    omega
  · have hne : ¬ t.1 = t.2 := fun e => h3 (by rw [e])
    have : listT t = [min t.1.1 t.2.1, max t.1.1 t.2.1] := by simp [listT, isAlone, hne]
    rw [this]
    show max (max 0 (tm xs (min t.1.1 t.2.1))) (tm xs (max t.1.1 t.2.1)) = _
    rcases Int.le_total t.1.1 t.2.1 with h | h
    · rw [Int.min_eq_left h, Int.max_eq_right h]
      omega
    · rw [Int.min_eq_right h, Int.max_eq_left h]
      omega
theorem sum_trips {xs : List Int} {ts : List Pt} (h : ∀ t ∈ ts, OkT xs t) (hm : ∀ y ∈ xs, 1 ≤ y ∧ y ≤ 1000) : sumSlow xs (ts.map listT) = timeT ts := by
  rw [sumSlow, timeT, List.map_map]
  congr 1
  exact List.map_congr_left fun t ht => slow_list (h t ht) hm
theorem all_trips {xs : List Int} {n : Nat} {ts : List Pt} (hx : xs.length = n) (h : ∀ t ∈ ts, OkT xs t) : AllTrips n (ts.map listT) := by
  intro k hk
  rw [List.getElem_map]
  have := (h _ (List.getElem_mem (by simpa using hk : k < ts.length))).steps
  rw [hx] at this
  exact this

set_option maxHeartbeats 1600000 in
theorem prSum_any (A D : Option Addr) (n c q z : Nat) (xs : List Int) (rs : List RowV) (w : World) (hA : Holds w A (nums xs)) (hD : Grid w D rs) (hx : xs.length = n) (hz : rs.length = q) (hn : n ≤ 9223372036854775807) (hq : q ≤ 40) (hp : ∀ y ∈ xs, 1 ≤ y ∧ y ≤ 1000) (ht : AllTrips n (rowNums rs)) :
    Calls Try.prog 22 #[.slice A n c, .slice D q z] w fun e w' => e = .returned (.int .i64 (sumSlow xs (rowNums rs))) ∧ Below w.heap.size w w' := by
  have HX := Lib.hid hx
  have HZ := Lib.hid hz
  have HP := Lib.hid hp
  have HT := Lib.hid ht
  clear hx hz hp ht
  go_enter Try.func22, Try.ntmps22
  go_wp2_with fail
  refine (paSumG_any A D n c q z xs rs 0 _ hA hD HX.out HZ.out hn hq HP.out HT.out).mono ?_
  rintro e w1 ⟨rfl, hb⟩
  go_wp2
  go_ret
  exact ⟨rfl, hb⟩
end Go.Proofs.Ytpefgleipjjneaa
