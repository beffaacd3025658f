/-
  What is proved: plain facts on how often each person crosses, and contracts of the program's count of it. Conditions: the trips are some of this party's.
-/
import Derived.Test.YtionmcgaicijkaaSum
import Derived.Laws.MakeOwn
namespace Go.Proofs.Ytionmcgaicijkaa
open Go.RowKit

def one (b : Bool) : Int := if b then 1 else 0
theorem one_bd (b : Bool) : 0 ≤ one b ∧ one b ≤ 1 := by cases b <;> simp [one]
/-- How often person i is on the first j lists. -/
def cnt (ls : List (List Int)) (j i : Nat) : Int := ((ls.take j).map fun l => one (has l i)).sum
theorem cnt_next {ls : List (List Int)} {j : Nat} (hj : j < ls.length) (i : Nat) : cnt ls (j + 1) i = cnt ls j i + one (has ls[j] i) := by
  rw [cnt, cnt, List.take_succ_eq_append_getElem hj, List.map_append, List.sum_append]
  simp
theorem sum_bd (l : List (List Int)) (i : Nat) : 0 ≤ (l.map fun l => one (has l i)).sum ∧ (l.map fun l => one (has l i)).sum ≤ l.length := by
  induction l with
  | nil => simp
  | cons a l ih => have := one_bd (has a i); simp only [List.map_cons, List.sum_cons, List.length_cons]; omega
theorem cnt_bd (ls : List (List Int)) (j i : Nat) : 0 ≤ cnt ls j i ∧ cnt ls j i ≤ ls.length := by
  have h := sum_bd (ls.take j) i
  have h2 := take_le' ls j
  rw [cnt]
  omega
/-- The counts of all people, behind the first j lists. -/
def walkTo (n : Nat) (ls : List (List Int)) (j : Nat) : List Int := (List.range n).map (cnt ls j)
theorem walkTo_len (n : Nat) (ls : List (List Int)) (j : Nat) : (walkTo n ls j).length = n := by simp [walkTo]
theorem walkTo_zero (n : Nat) (ls : List (List Int)) : walkTo n ls 0 = List.replicate n 0 := by
  apply List.ext_getElem
  · simp [walkTo]
  · intro i h1 h2
    simp [walkTo, cnt]
/-- The counts behind the first j lists and the first t people of list l. -/
def stepTo (n : Nat) (ls : List (List Int)) (j : Nat) (l : List Int) (t : Nat) : List Int := (List.range n).map fun i => cnt ls j i + one (has (l.take t) i)
theorem stepTo_len (n : Nat) (ls : List (List Int)) (j : Nat) (l : List Int) (t : Nat) : (stepTo n ls j l t).length = n := by simp [stepTo]
theorem stepTo_zero (n : Nat) (ls : List (List Int)) (j : Nat) (l : List Int) : stepTo n ls j l 0 = walkTo n ls j := by simp [stepTo, walkTo, has, one]
theorem stepTo_done (n : Nat) {ls : List (List Int)} {j : Nat} (hj : j < ls.length) {t : Nat} (ht : ls[j].length ≤ t) : stepTo n ls j ls[j] t = walkTo n ls (j + 1) := by
  unfold stepTo walkTo
  rw [List.take_of_length_le ht]
  exact List.map_congr_left fun i _ => (cnt_next hj i).symm
theorem steps_rise {l : List Int} {hi : Int} (h : StepsTo l hi l.length) : ∀ {j k : Nat} (hj : j < k) (hk : k < l.length), l[j] < l[k]
  | j, 0, hj, _ => by omega
  | j, k + 1, hj, hk => by
    have hs := h (k + 1) hk
    have h1 : l[k] < l[k + 1] := by
      have h2 : l.getD k 0 < l.getD (k + 1) 0 := by
        rcases hs.2.2 with h3 | h3
        · omega
        · exact h3
      rw [getD_at l hk, getD_at l (show k < l.length by omega)] at h2
      exact h2
    rcases Nat.lt_or_ge j k with hlt | hge
    · have h2 := steps_rise h hlt (by omega)
      omega
    · obtain rfl : j = k := by omega
      exact h1
theorem has_new {l : List Int} {hi : Int} (h : StepsTo l hi l.length) {t i : Nat} (ht : t < l.length) (hi' : l[t] = (i : Int)) : has (l.take t) i = false := by
  cases hh : has (l.take t) i
  · rfl
  · obtain ⟨k, hk, he⟩ := List.getElem_of_mem (has_iff.1 hh)
    have hkt : k < t := by simp at hk; omega
    rw [List.getElem_take] at he
    have := steps_rise h hkt ht
    omega
theorem stepTo_get {n : Nat} (ls : List (List Int)) (j : Nat) (l : List Int) (t : Nat) {i : Nat} (h : i < n) : (stepTo n ls j l t)[i]'(by rw [stepTo_len]; exact h) = cnt ls j i + one (has (l.take t) i) := by simp [stepTo]
theorem stepTo_next {n : Nat} {ls : List (List Int)} {j : Nat} {l : List Int} {t i : Nat} (h : StepsTo l (n - 1) l.length) (ht : t < l.length) (hi : l[t] = (i : Int)) : (stepTo n ls j l t).set i (cnt ls j i + one (has (l.take t) i) + 1) = stepTo n ls j l (t + 1) := by
  apply List.ext_getElem
  · simp [stepTo_len]
  · intro k h1 h2
    have hk : k < n := by rw [stepTo_len] at h2; exact h2
    rw [List.getElem_set, stepTo_get ls j l (t + 1) hk, List.take_succ_eq_append_getElem ht, has_snoc, hi]
    by_cases he : i = k
    · subst he
      rw [if_pos rfl, has_new h ht hi]
      simp [one]
    · rw [if_neg he, stepTo_get ls j l t hk]
      have : ((i : Int) == (k : Int)) = false := by simp; omega
      rw [this, Bool.or_false]
theorem nums_set (xs : List Int) (i : Nat) (v : Int) : (nums xs).toArray.setIfInBounds i (.int .i64 v) = (nums (xs.set i v)).toArray := by
  rw [List.setIfInBounds_toArray]
  simp [nums, List.map_set]
theorem nums_cell (xs : List Int) {i : Nat} (h : i < xs.length) : (nums xs).toArray[i]? = some (.int .i64 xs[i]) := by simp [nums, h]

set_option maxHeartbeats 400000 in
theorem timesHere_any (l : List Int) (k : Nat) (w : World) (hk : k < 8) :
    Calls Try.prog 82 #[.agg (crowdCells l), .int .i64 k] w fun e w' => e = .returned (.int .i64 (one (has l k))) ∧ Below w.heap.size w w' := by
  have h0 := Whole.fresh w 80 (crowdCells l)
  have hin := (h0.cell k).trans (crowd_at l hk)
  have hk0 : (0 : Int) ≤ k := by omega
  have hk8 : (k : Int) < 8 := by omega
  cases hh : has l k
  all_goals
    rw [hh] at hin
    clear hh h0
    unfold crowdCells at *
    go_enter Try.func82, Try.ntmps82
    go_wp2
    go_ret
    exact ⟨rfl, below1 w _⟩

set_option maxHeartbeats 1600000 in
set_option maxRecDepth 100000 in
theorem addUpHere_any (T : Option Addr) (q c k : Nat) (ls : List (List Int)) (w : World) (hT : Holds w T (crowdsOf ls)) (hq : ls.length = q) (hk8 : k < 8) (h40 : q ≤ 40) :
    Calls Try.prog 81 #[.slice T q c, .func (.func 82) #[] #[], .int .i64 k] w fun e w' => e = .returned (.int .i64 (cnt ls q k)) ∧ Below w.heap.size w w' := by
  have HQ := Lib.hid hq
  clear hq
  go_enter Try.func81, Try.ntmps81
  go_wp2
  go_loopw [7, 12] (fun v i wr => ∃ j : Nat, j ≤ q ∧ i = .int .i64 j ∧ v = .int .i64 (cnt ls j k) ∧ Below w.heap.size w wr) (fun _ i _ => q - (intOf i).toNat)
  case atStart => exact ⟨0, Nat.zero_le _, rfl, rfl, Below.refl _ _⟩
  case round =>
    obtain ⟨j, hj, rfl, rfl, hb⟩ := hrel
    by_cases hlt : j < q
    · have hjl : j < ls.length := by have := HQ.out; omega
      obtain ⟨b1, o1, rfl, hbl1, hcells⟩ := (hT.below hb).spot (by rw [crowdsOf_len]; omega)
      have hs0 := cnt_bd ls j k
      have hs1 := one_bd (has ls[j] k)
      have hs2 := hs0.1
      have hs3 : cnt ls j k ≤ 40 := by have := HQ.out; omega
      have hs4 := hs1.1
      have hs5 := hs1.2
      have HNX := Lib.hid (cnt_next hjl k)
      obtain ⟨e0, e1, e2, e3, e4, e5, e6, e7⟩ := crowd_row hcells hjl
      clear hs0 hs1 hcells
      go_wp2_with fail
      refine (timesHere_any ls[j] k _ hk8).mono ?_
      rintro e w1 ⟨rfl, hb1⟩
      have hbb := below_then (hb.alloc hb.size (.cells (crowdCells ls[j]) 80)) hb1 (by have := hb.size; simp; omega)
      clear hb hb1 e0 e1 e2 e3 e4 e5 e6 e7
      go_wp2
      go_roundw
      case rel => exact ⟨j + 1, by omega, by go_num, by rw [HNX.out], hbb⟩
      case measure => simp [intOf]; omega
    · have hkn : j = q := by omega
      subst hkn
      go_wp2
      go_ret
      exact ⟨rfl, hb⟩
end Go.Proofs.Ytionmcgaicijkaa
