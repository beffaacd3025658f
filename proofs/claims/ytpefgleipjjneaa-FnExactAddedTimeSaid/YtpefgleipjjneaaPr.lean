/-
  What is proved: plain facts on people in the order of their times, on the trips of two at once, and on an insertion sort. Conditions: none.
-/
import Derived.Test.YtpefgleipjjneaaSorted
import Derived.Test.YtpefgleipjjneaaCrowdOf
import Derived.Sort.Defs
namespace Go.Proofs.Ytpefgleipjjneaa
open Go.RowKit

theorem spot_lowQ {l : List Int} {x : Int} (hs : l.Pairwise (· ≤ ·)) : ∀ {k i : Nat}, k ≤ l.length → i < spot l x k → ∀ (h : i < l.length), l[i] ≤ x
  | 0, i, _, hi, _ => by simp [spot] at hi
  | k + 1, i, hk, hi, h => by
    by_cases hx : x < l.getD k 0
    · rw [spot_down hx] at hi
      exact spot_lowQ hs (by omega) hi h
    · rw [spot_here hx] at hi
      have hkl : k < l.length := by omega
      have hkx : l[k] ≤ x := by
        have : l.getD k 0 = l[k] := by simp [hkl]
        omega
      rcases Nat.lt_or_ge i k with h1 | h1
      · exact Int.le_trans (List.pairwise_iff_getElem.1 hs i k h hkl h1) hkx
      · obtain rfl : i = k := by omega
        exact hkx
theorem spot_highQ {l : List Int} {x : Int} : ∀ {k i : Nat}, spot l x k ≤ i → i < k → ∀ (h : i < l.length), x < l[i]
  | 0, i, _, hi, _ => by omega
  | k + 1, i, hs, hi, h => by
    by_cases hx : x < l.getD k 0
    · rw [spot_down hx] at hs
      rcases Nat.lt_or_ge i k with h1 | h1
      · exact spot_highQ hs h1 h
      · obtain rfl : i = k := by omega
        have : l.getD i 0 = l[i] := by simp [h]
        omega
    · rw [spot_here hx] at hs
      omega
theorem ins_permQ (l : List Int) (x : Int) : (ins l x).Perm (x :: l) := by
  have h := List.perm_middle (a := x) (l₁ := l.take (spot l x l.length)) (l₂ := l.drop (spot l x l.length))
  rw [List.take_append_drop] at h
  simpa [ins] using h
theorem ins_sortedQ {l : List Int} (x : Int) (hs : l.Pairwise (· ≤ ·)) : (ins l x).Pairwise (· ≤ ·) := by
  rw [ins, List.append_assoc, List.pairwise_append]
  refine ⟨hs.sublist (List.take_sublist _ _), ?_, fun a ha b hb => ?_⟩
  · rw [List.singleton_append, List.pairwise_cons]
    refine ⟨fun b hb => ?_, hs.sublist (List.drop_sublist _ _)⟩
    obtain ⟨i, hi, rfl⟩ := List.getElem_of_mem hb
    rw [List.getElem_drop]
    exact Int.le_of_lt (spot_highQ (k := l.length) (by omega) (by simp at hi; omega) (by simp at hi; omega))
  · obtain ⟨i, hi, rfl⟩ := List.getElem_of_mem ha
    rw [List.getElem_take]
    have hip : i < spot l x l.length := by simp at hi; omega
    have hil : i < l.length := by simp at hi; omega
    have hlx := spot_lowQ hs (Nat.le_refl _) hip hil
    rw [List.singleton_append, List.mem_cons] at hb
    rcases hb with rfl | hb
    · exact hlx
    · obtain ⟨j, hj, rfl⟩ := List.getElem_of_mem hb
      rw [List.getElem_drop]
      exact Int.le_of_lt (Int.lt_of_le_of_lt hlx (spot_highQ (k := l.length) (by omega) (by simp at hj; omega) (by simp at hj; omega)))
theorem insTo_sortedQ (xs : List Int) : ∀ {j : Nat}, j ≤ xs.length → (insTo xs j).Pairwise (· ≤ ·) ∧ (insTo xs j).Perm (xs.take j)
  | 0, _ => ⟨List.Pairwise.nil, List.Perm.refl _⟩
  | j + 1, h => by
    obtain ⟨h1, h2⟩ := insTo_sortedQ xs (j := j) (by omega)
    rw [insTo_next h]
    refine ⟨ins_sortedQ _ h1, (ins_permQ _ _).trans ?_⟩
    rw [List.take_succ_eq_append_getElem h]
    exact (h2.cons _).trans (List.perm_append_singleton _ _).symm

/-- The time of a person. -/
def tm (xs : List Int) (k : Int) : Int := xs.getD k.toNat 0
/-- The place at which a person goes among the first k of an order. -/
def spotO (xs o : List Int) (t : Int) (k : Nat) : Nat := spot (o.map (tm xs)) t k
def insO (xs o : List Int) (i t : Int) : List Int := (o.take (spotO xs o t o.length) ++ [i]) ++ o.drop (spotO xs o t o.length)
def ordTo (xs : List Int) (j : Nat) : List Int := (List.range j).foldl (fun o (i : Nat) => insO xs o (i : Int) (tm xs (i : Int))) []
theorem ordTo_next (xs : List Int) (j : Nat) : ordTo xs (j + 1) = insO xs (ordTo xs j) j (tm xs j) := by
  rw [ordTo, List.range_succ, List.foldl_append]
  rfl
theorem spotO_le (xs o : List Int) (t : Int) (k : Nat) : spotO xs o t k ≤ k := spot_le _ _ _
theorem spotO_down {xs o : List Int} {t : Int} {k : Nat} (hk : k < o.length) (h : t < tm xs (o.getD k 0)) : spotO xs o t (k + 1) = spotO xs o t k := by
  refine spot_down ?_
  simpa [hk] using h
theorem spotO_here {xs o : List Int} {t : Int} {k : Nat} (hk : k < o.length) (h : ¬ t < tm xs (o.getD k 0)) : spotO xs o t (k + 1) = k + 1 := by
  refine spot_here ?_
  simpa [hk] using h
theorem insO_len (xs o : List Int) (i t : Int) : (insO xs o i t).length = o.length + 1 := by
  have := spotO_le xs o t o.length
  simp [insO]
  omega
theorem ordTo_len (xs : List Int) : ∀ j, (ordTo xs j).length = j
  | 0 => rfl
  | j + 1 => by rw [ordTo_next, insO_len, ordTo_len xs j]
theorem insO_map {xs o : List Int} {i : Int} : (insO xs o i (tm xs i)).map (tm xs) = ins (o.map (tm xs)) (tm xs i) := by
  simp [insO, ins, spotO]
theorem tm_at {xs : List Int} {j : Nat} (h : j < xs.length) : tm xs (j : Int) = xs[j] := by simp [tm, h]
theorem ordTo_map (xs : List Int) : ∀ {j : Nat}, j ≤ xs.length → (ordTo xs j).map (tm xs) = insTo xs j
  | 0, _ => rfl
  | j + 1, h => by rw [ordTo_next, insO_map, ordTo_map xs (by omega), tm_at (by omega), insTo_next (by omega)]
theorem insO_perm (xs o : List Int) (i t : Int) : (insO xs o i t).Perm (i :: o) := by
  have h := List.perm_middle (a := i) (l₁ := o.take (spotO xs o t o.length)) (l₂ := o.drop (spotO xs o t o.length))
  rw [List.take_append_drop] at h
  simpa [insO] using h
theorem ordTo_mem (xs : List Int) : ∀ (j : Nat) (x : Int), x ∈ ordTo xs j ↔ 0 ≤ x ∧ x < j
  | 0, x => by simp [ordTo]; try omega
  | j + 1, x => by
    rw [ordTo_next, (insO_perm _ _ _ _).mem_iff, List.mem_cons, ordTo_mem xs j]
    omega
theorem ordTo_nodup (xs : List Int) : ∀ (j : Nat), (ordTo xs j).Nodup
  | 0 => by simp [ordTo]
  | j + 1 => by
    rw [ordTo_next, (insO_perm _ _ _ _).nodup_iff, List.nodup_cons]
    exact ⟨fun h => by have := (ordTo_mem xs j _).1 h; omega, ordTo_nodup xs j⟩
/-- The people in their order. -/
def ord (xs : List Int) : List Int := ordTo xs xs.length
theorem ord_len (xs : List Int) : (ord xs).length = xs.length := ordTo_len _ _
theorem ord_sorted (xs : List Int) : ((ord xs).map (tm xs)).Pairwise (· ≤ ·) := by
  rw [ord, ordTo_map xs (Nat.le_refl _)]
  exact (insTo_sortedQ xs (Nat.le_refl _)).1
theorem ord_mem {xs : List Int} {x : Int} (h : x ∈ ord xs) : 0 ≤ x ∧ x < xs.length := (ordTo_mem xs _ x).1 h
theorem ord_nodup (xs : List Int) : (ord xs).Nodup := ordTo_nodup xs _

/-! ### The insertion sort of an array of people with their times -/
abbrev Wk := Int × Int
/-- By the times alone. -/
def wlt (x y : Wk) : Bool := decide (x.2 < y.2)
def mk (xs o : List Int) : List Wk := o.map fun i => (i, tm xs i)
theorem mk_len (xs o : List Int) : (mk xs o).length = o.length := by simp [mk]
theorem mk_app (xs a b : List Int) : mk xs (a ++ b) = mk xs a ++ mk xs b := List.map_append
theorem mk_cons (xs a : List Int) (i : Int) : mk xs (i :: a) = (i, tm xs i) :: mk xs a := rfl
theorem get_list {α : Type} [Inhabited α] (d : Array α) (j : Nat) (x : α) (h : d.toList[j]? = some x) : d[j]! = x := by
  rw [Array.getElem?_toList] at h
  simp [getElem!_def, h]
theorem swp_list {d : Array Wk} {P R : List Wk} {x y : Wk} (h : d.toList = P ++ y :: x :: R) : (Go.Sort.swp d (P.length + 1) P.length).toList = P ++ x :: y :: R := by
  have hy : d[P.length]! = y := get_list _ _ _ (by rw [h]; simp)
  have hx : d[P.length + 1]! = x := get_list _ _ _ (by rw [h, List.getElem?_append_right (by omega)]; simp)
  simp only [Go.Sort.swp, Array.toList_setIfInBounds, hx, hy, h]
  rw [List.set_append_right _ _ (by omega), List.set_append_right _ _ (by omega)]
  simp
theorem inner_list (xs o : List Int) (i t : Int) (R : List Wk) : ∀ (j : Nat) (d : Array Wk), j ≤ o.length → d.toList = mk xs (o.take j) ++ (i, t) :: (mk xs (o.drop j) ++ R) →
    (Go.Sort.insInner wlt 0 j d).toList = mk xs (o.take (spotO xs o t j)) ++ (i, t) :: (mk xs (o.drop (spotO xs o t j)) ++ R)
  | 0, d, _, h => by simpa [Go.Sort.insInner, spotO, spot] using h
  | j + 1, d, hj, h => by
    have hjl : j < o.length := by omega
    have h1 : d.toList = mk xs (o.take j) ++ (o[j], tm xs o[j]) :: (i, t) :: (mk xs (o.drop (j + 1)) ++ R) := by
      rw [h, List.take_succ_eq_append_getElem hjl, mk_app, List.append_assoc]
      rfl
    have hl : (mk xs (o.take j)).length = j := by rw [mk_len]; simp; omega
    have hx : d[j + 1]! = (i, t) := get_list _ _ _ (by rw [h1, List.getElem?_append_right (by omega)]; simp [hl, show j + 1 - j = 1 by omega])
    have hy : d[j]! = (o[j], tm xs o[j]) := get_list _ _ _ (by rw [h1, List.getElem?_append_right (by omega)]; simp [hl])
    have hg : o.getD j 0 = o[j] := by simp [hjl]
    rw [Go.Sort.insInner, hx, hy]
    by_cases hlt : t < tm xs o[j]
    · rw [if_pos (by simp [wlt, hlt]), spotO_down hjl (by rw [hg]; exact hlt)]
      refine inner_list xs o i t R j _ (by omega) ?_
      have := swp_list h1
      rw [hl] at this
      rw [this, List.drop_eq_getElem_cons hjl, mk_cons]
      rfl
    · rw [if_neg (by simp [wlt]; omega), spotO_here hjl (by rw [hg]; exact hlt)]
      exact h
theorem outer_list (xs : List Int) (n : Nat) : ∀ (g i : Nat) (d : Array Wk), n - i ≤ g → i ≤ n → d.toList = mk xs (ordTo xs i) ++ mk xs ((List.range' i (n - i)).map Int.ofNat) →
    (Go.Sort.insOuter wlt 0 n i d).toList = mk xs (ordTo xs n)
  | 0, i, d, hg, hi, h => by
    obtain rfl : i = n := by omega
    rw [Go.Sort.insOuter, if_neg (by omega), h]
    simp [mk]
  | g + 1, i, d, hg, hi, h => by
    by_cases hlt : i < n
    · rw [Go.Sort.insOuter, if_pos hlt]
      refine outer_list xs n g (i + 1) _ (by omega) (by omega) ?_
      have hol := ordTo_len xs i
      obtain ⟨m, hm⟩ : ∃ m, n - i = m + 1 := ⟨n - i - 1, by omega⟩
      have hm' : n - (i + 1) = m := by omega
      have := inner_list xs (ordTo xs i) i (tm xs i) (mk xs ((List.range' (i + 1) m).map Int.ofNat)) i d (by omega) (by
        rw [h, hm, List.range'_succ, List.take_of_length_le (by omega), List.drop_eq_nil_of_le (by omega)]
        simp [mk])
      rw [this, hm', ordTo_next, insO, hol]
      simp [mk]
    · obtain rfl : i = n := by omega
      rw [Go.Sort.insOuter, if_neg (by omega), h]
      simp [mk]
/-- The sort puts the people in their order. -/
theorem sort_list (xs : List Int) (d : Array Wk) (h : d.toList = mk xs ((List.range xs.length).map Int.ofNat)) : (Go.Sort.insertionSort wlt d 0 xs.length).toList = mk xs (ord xs) := by
  rw [Go.Sort.insertionSort]
  cases hn : xs.length with
  | zero =>
    obtain rfl : xs = [] := List.length_eq_zero_iff.1 hn
    rw [Go.Sort.insOuter, if_neg (by simp), h]
    rfl
  | succ n =>
    have := outer_list xs (n + 1) n 1 d (by omega) (by omega) (by
      rw [h, hn, List.range_eq_range', List.range'_succ]
      simp [mk, ordTo, insO, spotO, spot])
    rw [show (0 : Nat) + 1 = 1 from rfl, this, ord, hn]

/-! ### The trips of two at once -/
/-- A trip: the fast one and the slow one. -/
abbrev Pt := Wk × Wk
def wk (W : List Wk) (k : Nat) : Wk := W.getD k (0, 0)
def gainOf (W : List Wk) (k : Nat) : Int := (wk W 0).2 + (wk W k).2 - 2 * (wk W 1).2
def round (f : Bool) (W : List Wk) (k : Nat) : List Pt :=
  if f && decide (0 < gainOf W k) then [(wk W 0, wk W 1), (wk W 0, wk W 0), (wk W k, wk W (k + 1)), (wk W 1, wk W 1)]
  else [(wk W 0, wk W (k + 1)), (wk W 0, wk W 0), (wk W 0, wk W k), (wk W 0, wk W 0)]
def lastT (W : List Wk) : Nat → List Pt
  | 1 => [(wk W 0, wk W 0)]
  | 2 => [(wk W 0, wk W 1)]
  | 3 => [(wk W 0, wk W 1), (wk W 0, wk W 0), (wk W 0, wk W 2)]
  | _ => []
/-- All trips while so many are not over. -/
def tripsT (f : Bool) (W : List Wk) : Nat → List Pt
  | 0 => []
  | 1 => lastT W 1
  | 2 => lastT W 2
  | 3 => lastT W 3
  | k + 4 => round f W (k + 2) ++ tripsT f W (k + 2)
/-- What is gained in the rounds. -/
def gainsT (W : List Wk) : Nat → List Int
  | 0 => []
  | 1 => []
  | 2 => []
  | 3 => []
  | k + 4 => gainOf W (k + 2) :: gainsT W (k + 2)
def isAlone (t : Pt) : Bool := t.1 == t.2
def listT (t : Pt) : List Int := if isAlone t then [t.1.1] else [min t.1.1 t.2.1, max t.1.1 t.2.1]
def timeT (ts : List Pt) : Int := (ts.map fun t => t.2.2).sum

/-- People with their times, in an order. -/
structure GoodW (xs : List Int) (W : List Wk) : Prop where
  own : ∀ k, k < W.length → (wk W k).2 = tm xs (wk W k).1 ∧ 0 ≤ (wk W k).1 ∧ (wk W k).1 < xs.length
  two : ∀ j k, j < k → k < W.length → (wk W j).2 ≤ (wk W k).2 ∧ (wk W j).1 ≠ (wk W k).1
theorem wk_mk {xs o : List Int} {k : Nat} (h : k < o.length) : wk (mk xs o) k = (o[k], tm xs o[k]) := by simp [wk, mk, h]
theorem good_ord (xs : List Int) : GoodW xs (mk xs (ord xs)) := by
  refine ⟨fun k hk => ?_, fun j k hjk hk => ?_⟩
  · rw [mk_len] at hk
    rw [wk_mk hk]
    exact ⟨rfl, ord_mem (List.getElem_mem hk)⟩
  · rw [mk_len] at hk
    rw [wk_mk hk, wk_mk (by omega)]
    constructor
    · have := List.pairwise_iff_getElem.1 (ord_sorted xs) j k (by simp; omega) (by simp; omega) hjk
      simpa using this
    · exact List.pairwise_iff_getElem.1 (ord_nodup xs) j k (by omega) hk hjk
/-- A trip of one or of two people, the slow one behind. -/
def OkT (xs : List Int) (t : Pt) : Prop :=
  (t.1.2 = tm xs t.1.1 ∧ 0 ≤ t.1.1 ∧ t.1.1 < xs.length) ∧ (t.2.2 = tm xs t.2.1 ∧ 0 ≤ t.2.1 ∧ t.2.1 < xs.length) ∧ (t.1 = t.2 ∨ (t.1.1 ≠ t.2.1 ∧ t.1.2 ≤ t.2.2))
theorem GoodW.one {xs : List Int} {W : List Wk} (h : GoodW xs W) {k : Nat} (hk : k < W.length) : OkT xs (wk W k, wk W k) := ⟨h.own k hk, h.own k hk, .inl rfl⟩
theorem GoodW.pair {xs : List Int} {W : List Wk} (h : GoodW xs W) {j k : Nat} (hj : j < k) (hk : k < W.length) : OkT xs (wk W j, wk W k) :=
  ⟨h.own j (by omega), h.own k hk, .inr ⟨(h.two j k hj hk).2, (h.two j k hj hk).1⟩⟩
theorem round_ok {xs : List Int} {W : List Wk} (h : GoodW xs W) (f : Bool) {k : Nat} (h2 : 2 ≤ k) (hk : k + 1 < W.length) : ∀ t ∈ round f W k, OkT xs t := by
  intro t ht
  unfold round at ht
  split at ht <;> simp only [List.mem_cons, List.not_mem_nil, or_false] at ht <;> rcases ht with rfl | rfl | rfl | rfl
  · exact h.pair (by omega) (by omega)
  · exact h.one (by omega)
  · exact h.pair (by omega) (by omega)
  · exact h.one (by omega)
  · exact h.pair (by omega) (by omega)
  · exact h.one (by omega)
  · exact h.pair (by omega) (by omega)
  · exact h.one (by omega)
theorem trips_ok {xs : List Int} {W : List Wk} (h : GoodW xs W) (f : Bool) : ∀ n, n ≤ W.length → ∀ t ∈ tripsT f W n, OkT xs t
  | 0, _ => fun t ht => by simp [tripsT] at ht
  | 1, hn => fun t ht => by simp only [tripsT, lastT, List.mem_cons, List.not_mem_nil, or_false] at ht; subst ht; exact h.one (by omega)
  | 2, hn => fun t ht => by simp only [tripsT, lastT, List.mem_cons, List.not_mem_nil, or_false] at ht; subst ht; exact h.pair (by omega) (by omega)
  | 3, hn => fun t ht => by
    simp only [tripsT, lastT, List.mem_cons, List.not_mem_nil, or_false] at ht
    rcases ht with rfl | rfl | rfl
    · exact h.pair (by omega) (by omega)
    · exact h.one (by omega)
    · exact h.pair (by omega) (by omega)
  | k + 4, hn => fun t ht => by
    rw [tripsT] at ht
    rcases List.mem_append.1 ht with ht | ht
    · exact round_ok h f (by omega) (by omega) t ht
    · exact trips_ok h f (k + 2) (by omega) t ht
theorem round_len (f : Bool) (W : List Wk) (k : Nat) : (round f W k).length = 4 := by unfold round; split <;> rfl
theorem trips_len (f : Bool) (W : List Wk) : ∀ n, (tripsT f W n).length ≤ 2 * n
  | 0 => by simp [tripsT]
  | 1 => by simp [tripsT, lastT]
  | 2 => by simp [tripsT, lastT]
  | 3 => by simp [tripsT, lastT]
  | k + 4 => by
    have := trips_len f W (k + 2)
    rw [tripsT, List.length_append, round_len]
    omega
/-- Every second trip is of one person. -/
theorem trips_alone (f : Bool) (W : List Wk) : ∀ n i (t : Pt), (tripsT f W n)[2 * i + 1]? = some t → isAlone t = true
  | 0, i, t, h => by simp [tripsT] at h
  | 1, i, t, h => by simp [tripsT, lastT] at h
  | 2, i, t, h => by simp [tripsT, lastT] at h
  | 3, i, t, h => by
    match i, h with
    | 0, h => simp [tripsT, lastT] at h; subst h; simp [isAlone]
    | i + 1, h => simp [tripsT, lastT, show 2 * (i + 1) + 1 = 2 * i + 3 by omega] at h
  | k + 4, i, t, h => by
    rw [tripsT] at h
    match i, h with
    | 0, h =>
      rw [List.getElem?_append_left (by rw [round_len]; omega)] at h
      unfold round at h
      split at h <;> · simp at h; subst h; simp [isAlone]
    | 1, h =>
      rw [List.getElem?_append_left (by rw [round_len]; omega)] at h
      unfold round at h
      split at h <;> · simp at h; subst h; simp [isAlone]
    | i + 2, h =>
      rw [List.getElem?_append_right (by rw [round_len]; omega), round_len, show 2 * (i + 2) + 1 - 4 = 2 * i + 1 by omega] at h
      exact trips_alone f W (k + 2) i t h
theorem OkT.steps {xs : List Int} {t : Pt} (h : OkT xs t) : StepsTo (listT t) (xs.length - 1) (listT t).length := by
  obtain ⟨⟨-, a1, a2⟩, ⟨-, b1, b2⟩, h3⟩ := h
  cases hc : isAlone t
  · have hne : t.1.1 ≠ t.2.1 := by
      rcases h3 with h3 | h3
      · rw [isAlone, h3] at hc
        simp at hc
      · exact h3.1
    rw [show listT t = [min t.1.1 t.2.1, max t.1.1 t.2.1] by simp [listT, hc]]
    intro j hj
    match j, hj with
    | 0, _ => simp [Step]; omega
    | 1, _ => simp [Step]; omega
    | j + 2, hj => exact absurd hj (by simp)
  · rw [show listT t = [t.1.1] by simp [listT, hc]]
    intro j hj
    match j, hj with
    | 0, _ => simp [Step]; omega
    | j + 1, hj => simp at hj
end Go.Proofs.Ytpefgleipjjneaa
