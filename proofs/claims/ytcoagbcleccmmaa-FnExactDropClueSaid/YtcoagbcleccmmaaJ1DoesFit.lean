/-
  What is proved: contracts of the model's and the program's tests of a state. Conditions: the party's times and the state's places are read as they lie.
  What is proved: the contract of the program's own IsState. Conditions: the party's times and the state's places are read as they lie.
  What is proved: contracts on trips: the program's crowd of a list and its slowest time, the model's test of a trip and its time; and that the two times are one. Conditions: lists are read as they lie; at most eight people.
  What is proved: contracts of the program's crowd of a list, of its slowest time, and that this time is the model's. Conditions: lists are read as they lie; at most eight people.
  What is proved: contracts of the model's and the program's TripTime. Conditions: the party's times and the list are read as they lie.
  What is proved: contracts of the model's and the program's tests of a trip in a state. Conditions: the arguments are read as they lie; at most eight people.
  What is proved: a store of a whole struct or array into a block that is known whole, as one step of a walk. Conditions: the block has just as many cells.
  What is proved: contracts of the program's own place of a state, of a trip in it, and of its CanCross. Conditions: the arguments are read as they lie; at most eight people.
  What is proved: contracts of the first state, as the model and the program make it. Conditions: the party's times are read as they lie.
  What is proved: contracts of the program's state of a place and of its FirstState. Conditions: the party's times are read as they lie; at most eight people.
  What is proved: contracts of a byte written to a strings.Builder of the call's own, in this program's numbers. Conditions: the builder is only written; fewer than 2^47 bytes.
  What is proved: contracts of the last state, as the model and the program make it. Conditions: the party's times are read as they lie.
  What is proved: plain facts on trips one after the other: who is where behind them, how many of them can be made. Conditions: none.
  What is proved: contracts of a trip made, by the model (paCross) and by the program (cross). Conditions: the trip is one; at most eight people.
  What is proved: plain facts on a struct of the call's own that is handed back by a call in a statement whose order is open. Conditions: none.
  What is proved: the contract of the model's copy of a list (l1Own), and plain facts on lists of the call's own. Conditions: the list is read as it lies; at most 1,048,576 numbers.
  What is proved: contracts of a party slowed down, as the model and the program make it. Conditions: the party's times are read as they lie.
  What is proved: contracts of a party without one person, as the model makes it; append onto a list of the call's own inside a region that draws. Conditions: the party's times are read as they lie.
  What is proved: the contract of the model's sorting (paSorted). Conditions: the list is read as it lies; at most 1,048,576 numbers.
  What is proved: plain facts on people in the order of their times, on the trips of two at once, and on an insertion sort. Conditions: none.
  What is proved: the contract of the model's prOrder: the people in the order of their times. Conditions: the times are read as they lie; at most 1,048,575 of them.
  What is proved: contracts of the program's sortBy at people with their times (slices.SortStableFunc at twelve at most), and plain facts on squads. Conditions: the people are read as they lie.
  What is proved: the contract of the program's sortBy at people with their times. Conditions: at most twelve people, read as they lie.
  What is proved: the contract of the program's squadOf: the people with some times in their order. Conditions: the times are read as they lie.
  What is proved: the contract of the program's squadOf: the people with some times in their order. Conditions: the times are read as they lie.
  What is proved: contracts of RankOfPace, of the model and of the program. Conditions: the times are read as they lie.
  What is proved: the contract of the program's fetchGain. Conditions: two people at least, times from 0 to 1000.
  What is proved: contracts of the laws' copy and comparison of lists of lists of numbers. Conditions: the given lists are read as they lie; a copy is of at most 1,048,576 numbers.
-/
import Derived.Laws.CopyOwn
import Derived.Laws.Tables
import Derived.WalkSpells
import Derived.Deep.RegionHeld3
import Derived.Lib.Builder
import Derived.Shelf.Strings.Builder1
import Derived.Deep.RegionLawGrows
import Derived.Laws.AppendOwnNone
import Derived.Deep.DeepCutAuto
import Derived.Sort.Defs
import Derived.Shelf.SlSortCmp.InsertionK
import Derived.Lib.Small
import Derived.RegionTactic
import Derived.Deep.CutBlock
import Derived.WalkMore
import Derived.Test.YtcoagbcleccmmaaJ1IsPuzzle
set_option linter.unusedSimpArgs false
set_option linter.unusedVariables false
namespace Go.Proofs.Ytcoagbcleccmmaa
open Go.RowKit

/-- A state, told in plain words: as long as the party, and the torch is where somebody is. -/
def isState (n : Nat) (bs : List Bool) (t : Bool) : Bool := decide (bs.length = n) && bs.any (· == t)
theorem isState_len {n : Nat} {bs : List Bool} {t : Bool} (h : bs.length ≠ n) : isState n bs t = false := by simp [isState, h]
theorem isState_has {n : Nat} {bs : List Bool} {t : Bool} (h : bs.length = n) {k : Nat} (hk : k < bs.length) (he : bs[k] = t) : isState n bs t = true := by
  simp only [isState, h, decide_true, Bool.true_and, List.any_eq_true]
  exact ⟨bs[k], List.getElem_mem hk, by simp [he]⟩
theorem isState_none {n : Nat} {bs : List Bool} {t : Bool} (h : ∀ j (hj : j < bs.length), bs[j] ≠ t) : isState n bs t = false := by
  have : bs.any (· == t) = false := by
    rw [List.any_eq_false]
    intro x hx
    obtain ⟨j, hj, rfl⟩ := List.getElem_of_mem hx
    simpa using h j hj
  simp [isState, this]

/-- None of the first k stands where t is. -/
def NoneYet (bs : List Bool) (t : Bool) (k : Nat) : Prop := ∀ j (h : j < bs.length), j < k → bs[j] ≠ t
theorem NoneYet.start (bs : List Bool) (t : Bool) : NoneYet bs t 0 := fun _ _ h => absurd h (by omega)
theorem NoneYet.next {bs : List Bool} {t : Bool} {k : Nat} (h : NoneYet bs t k) (hk : k < bs.length) (hne : bs[k] ≠ t) : NoneYet bs t (k + 1) := fun j hj hlt =>
  (Nat.lt_succ_iff_lt_or_eq.1 hlt).elim (h j hj) (fun e => by subst e; exact hne)
theorem NoneYet.all {bs : List Bool} {t : Bool} {k : Nat} (h : NoneYet bs t k) (hk : bs.length ≤ k) : ∀ j (hj : j < bs.length), bs[j] ≠ t := fun j hj => h j hj (by omega)

/-- What Index hands back: a place from 0 on where t stands, or -1 where it stands nowhere. -/
def IndexPost (bs : List Bool) (t : Bool) (w : World) (e : Ending) (w' : World) : Prop := ∃ r : Int, e = .returned (.int .i64 r) ∧ decide (0 ≤ r) = bs.any (· == t) ∧ w = w'

/-- The cells of a place: eight people, of whom the party's are told, and the torch. -/
def placeCells (bs : List Bool) (t : Bool) : Array Value := #[.bool (bs.getD 0 false), .bool (bs.getD 1 false), .bool (bs.getD 2 false), .bool (bs.getD 3 false), .bool (bs.getD 4 false), .bool (bs.getD 5 false), .bool (bs.getD 6 false), .bool (bs.getD 7 false), .bool t]

theorem place_cells {w : World} {g : Nat} {ty : TypeId} {bs : List Bool} {t : Bool} (h : Whole w g ty (placeCells bs t)) :
    w.cell? ⟨g, 0, none⟩ = some (.bool (bs.getD 0 false)) ∧ w.cell? ⟨g, 1, none⟩ = some (.bool (bs.getD 1 false)) ∧ w.cell? ⟨g, 2, none⟩ = some (.bool (bs.getD 2 false)) ∧ w.cell? ⟨g, 3, none⟩ = some (.bool (bs.getD 3 false)) ∧
    w.cell? ⟨g, 4, none⟩ = some (.bool (bs.getD 4 false)) ∧ w.cell? ⟨g, 5, none⟩ = some (.bool (bs.getD 5 false)) ∧ w.cell? ⟨g, 6, none⟩ = some (.bool (bs.getD 6 false)) ∧ w.cell? ⟨g, 7, none⟩ = some (.bool (bs.getD 7 false)) ∧
    w.cell? ⟨g, 8, none⟩ = some (.bool t) :=
  ⟨(h.cell 0).trans rfl, (h.cell 1).trans rfl, (h.cell 2).trans rfl, (h.cell 3).trans rfl, (h.cell 4).trans rfl, (h.cell 5).trans rfl, (h.cell 6).trans rfl, (h.cell 7).trans rfl, (h.cell 8).trans rfl⟩
theorem place_open {w : World} {g : Nat} {ty : TypeId} {cs : Array Value} (h : Whole w g ty cs) :
    w.frozen? ⟨g, 0, none⟩ = false ∧ w.frozen? ⟨g, 1, none⟩ = false ∧ w.frozen? ⟨g, 2, none⟩ = false ∧ w.frozen? ⟨g, 3, none⟩ = false ∧ w.frozen? ⟨g, 4, none⟩ = false ∧ w.frozen? ⟨g, 5, none⟩ = false ∧ w.frozen? ⟨g, 6, none⟩ = false ∧ w.frozen? ⟨g, 7, none⟩ = false ∧ w.frozen? ⟨g, 8, none⟩ = false :=
  ⟨h.open_ 0, h.open_ 1, h.open_ 2, h.open_ 3, h.open_ 4, h.open_ 5, h.open_ 6, h.open_ 7, h.open_ 8⟩
theorem set_place {w : World} {g B : Nat} {a : World} {v0 v1 v2 v3 v4 v5 v6 v7 v8 : Value} (h : Below B a w) (hg : B ≤ g) :
    Below B a (((((((((w.setCell ⟨g, 0, none⟩ v0).setCell ⟨g, 1, none⟩ v1).setCell ⟨g, 2, none⟩ v2).setCell ⟨g, 3, none⟩ v3).setCell ⟨g, 4, none⟩ v4).setCell ⟨g, 5, none⟩ v5).setCell ⟨g, 6, none⟩ v6).setCell ⟨g, 7, none⟩ v7).setCell ⟨g, 8, none⟩ v8) :=
  below_set (below_set (below_set (below_set (below_set (below_set (below_set (below_set (below_set h hg) hg) hg) hg) hg) hg) hg) hg) hg

theorem size_bool : (Try.prog.info? 4).map (·.size) = some 1 := by kernel_rfl

theorem splice_place (bs : List Bool) (t : Bool) (h : bs.length ≤ 8) : splice (placeCells [] t).toList 0 (bits bs) = (placeCells bs t).toList := by
  match bs, h with
  | [], _ => rfl
  | [_], _ => rfl
  | [_, _], _ => rfl
  | [_, _, _], _ => rfl
  | [_, _, _, _], _ => rfl
  | [_, _, _, _, _], _ => rfl
  | [_, _, _, _, _, _], _ => rfl
  | [_, _, _, _, _, _, _], _ => rfl
  | [_, _, _, _, _, _, _, _], _ => rfl
  | _ :: _ :: _ :: _ :: _ :: _ :: _ :: _ :: _ :: _, h => simp at h

end Go.Proofs.Ytcoagbcleccmmaa

namespace Go.Proofs.Ytcoagbcleccmmaa
open Go.RowKit

theorem isParty_le {xs : List Int} {s : Int} (h : isParty xs s = true) : xs.length ≤ 8 := by
  simp only [isParty, Bool.and_eq_true] at h
  have := (within_iff.1 h.1).2
  omega

end Go.Proofs.Ytcoagbcleccmmaa

namespace Go.Proofs.Ytcoagbcleccmmaa
open Go.RowKit

/-- Place j of a list is a person behind the one before. -/
def Step (l : List Int) (hi : Int) (j : Nat) : Prop := 0 ≤ l.getD j 0 ∧ l.getD j 0 ≤ hi ∧ (j = 0 ∨ l.getD (j - 1) 0 < l.getD j 0)
def StepsTo (l : List Int) (hi : Int) (k : Nat) : Prop := ∀ j, j < k → Step l hi j
/-- A strictly rising list of numbers from 0 to hi. -/
noncomputable def rising (l : List Int) (hi : Int) : Bool := by
  classical
  exact decide (StepsTo l hi l.length)
theorem rising_no {l : List Int} {hi : Int} {k : Nat} (hk : k < l.length) (h : ¬ Step l hi k) : rising l hi = false := by
  classical
  simp only [rising, decide_eq_false_iff_not]
  exact fun hs => h (hs k hk)
theorem rising_yes {l : List Int} {hi : Int} {k : Nat} (h : StepsTo l hi k) (hk : l.length ≤ k) : rising l hi = true := by
  classical
  simp only [rising, decide_eq_true_eq]
  exact fun j hj => h j (by omega)
theorem rising_steps {l : List Int} {hi : Int} (h : rising l hi = true) : StepsTo l hi l.length := by
  classical
  simpa only [rising, decide_eq_true_eq] using h
theorem StepsTo.start (l : List Int) (hi : Int) : StepsTo l hi 0 := fun _ h => absurd h (by omega)
theorem StepsTo.next {l : List Int} {hi : Int} {k : Nat} (h : StepsTo l hi k) (hs : Step l hi k) : StepsTo l hi (k + 1) := fun j hj =>
  (Nat.lt_succ_iff_lt_or_eq.1 hj).elim (h j) (fun e => e ▸ hs)
theorem getD_at (l : List Int) {k : Nat} (hk : k < l.length) : l.getD k 0 = l[k] := by simp [hk]

theorem l1Most_any (a b : Int) (w : World) : Calls Try.prog 110 #[.int .i64 a, .int .i64 b] w fun e w' => e = .returned (.int .i64 (max a b)) ∧ w = w' := by
  by_cases h : b < a
  · have HM := Lib.hid (show max a b = a by omega)
    go_enter Try.func110, Try.ntmps110
    go_wp2
    go_ret
    exact ⟨ret_of (by rw [HM.out]; rfl), rfl⟩
  · have HM := Lib.hid (show max a b = b by omega)
    go_enter Try.func110, Try.ntmps110
    go_wp2
    go_ret
    exact ⟨ret_of (by rw [HM.out]; rfl), rfl⟩

/-- A trip of a party, by the list alone: 1..seats people, strictly rising. -/
noncomputable def isTrip (n : Nat) (s : Int) (l : List Int) : Bool := within l.length 1 s && rising l (n - 1)

/-- The slowest time among the people of a list, as the model finds it. -/
def slowOf (xs l : List Int) : Int := (l.map fun k => xs.getD k.toNat 0).foldl max 0
theorem slowOf_next {xs l : List Int} {k : Nat} (hk : k < l.length) : slowOf xs (l.take (k + 1)) = max (slowOf xs (l.take k)) (xs.getD (l[k]).toNat 0) := by
  rw [slowOf, slowOf, List.take_succ_eq_append_getElem hk, List.map_append, List.foldl_append]
  rfl

set_option maxHeartbeats 800000 in
theorem paTime_any (A B : Option Addr) (n c m d : Nat) (xs l : List Int) (s : Int) (w : World) (hA : Holds w A (nums xs)) (hx : xs.length = n) (hB : Holds w B (nums l)) (hy : l.length = m) (hm : m ≤ 9223372036854775807) (hn : n ≤ 9223372036854775807) (hl : StepsTo l (n - 1) l.length) :
    Calls Try.prog 107 #[.agg #[.slice A n c, .int .i64 s], .slice B m d] w fun e w' => e = .returned (.int .i64 (slowOf xs l)) ∧ Below w.heap.size w w' := by
  have hA2 := hA.alloc (.cells #[.slice A n c, .int .i64 s] 110)
  have hB2 := hB.alloc (.cells #[.slice A n c, .int .i64 s] 110)
  have HX := Lib.hid hx
  clear hx
  subst hy
  go_enter Try.func107, Try.ntmps107
  go_wp2
  go_loop [5, 10] (fun v i => ∃ k : Nat, k ≤ l.length ∧ i = .int .i64 k ∧ v = .int .i64 (slowOf xs (l.take k))) (fun _ i => l.length - (intOf i).toNat)
  case atStart => exact ⟨0, Nat.zero_le _, rfl, rfl⟩
  case round =>
    obtain ⟨k, hk, rfl, rfl⟩ := hrel
    by_cases hlt : k < l.length
    · obtain ⟨b, o, rfl, hb, hc⟩ := hB2.look (k := k) (by simpa [nums] using hlt)
      simp only [nums, List.getElem_map] at hc
      have hst := hl k hlt
      have hlo := hst.1
      have hhi := hst.2.1
      rw [getD_at l hlt] at hlo hhi
      have hix : (l[k]).toNat < xs.length := by have := HX.out; omega
      obtain ⟨b', o', rfl, hb', hc'⟩ := hA2.look (k := (l[k]).toNat) (by simpa [nums] using hix)
      simp only [nums, List.getElem_map] at hc'
      have hnx := slowOf_next (xs := xs) hlt
      rw [List.getD_eq_getElem?_getD, List.getElem?_eq_getElem hix] at hnx
      have HN := Lib.hid hnx
      have hup : l[k] < n := by omega
      clear hnx hst hhi
      go_wp2_with (go_at_call 110; refine (l1Most_any _ _ _).mono ?_; rintro e w' ⟨rfl, rfl⟩)
      go_round
      case rel => exact ⟨k + 1, by omega, by go_num, by rw [HN.out]; rfl⟩
      case measure => simp [intOf]; omega
    · have hkn : k = l.length := by omega
      subst hkn
      go_wp2
      go_ret
      exact ⟨ret_of (by simp), below1 w _⟩
end Go.Proofs.Ytcoagbcleccmmaa

namespace Go.Proofs.Ytcoagbcleccmmaa
open Go.RowKit

/-- Is person i on the list? -/
def has (l : List Int) (i : Nat) : Bool := l.any (· == (i : Int))
/-- The cells of the crowd of a list. -/
def crowdCells (l : List Int) : Array Value := #[.bool (has l 0), .bool (has l 1), .bool (has l 2), .bool (has l 3), .bool (has l 4), .bool (has l 5), .bool (has l 6), .bool (has l 7)]
theorem crowd_at (l : List Int) {i : Nat} (h : i < 8) : (crowdCells l)[i]? = some (.bool (has l i)) := by
  match i, h with
  | 0, _ => rfl
  | 1, _ => rfl
  | 2, _ => rfl
  | 3, _ => rfl
  | 4, _ => rfl
  | 5, _ => rfl
  | 6, _ => rfl
  | 7, _ => rfl
theorem has_snoc (l : List Int) (x : Int) (i : Nat) : has (l ++ [x]) i = (has l i || x == (i : Int)) := by simp [has]
theorem crowd_set (l : List Int) {x : Int} (h0 : 0 ≤ x) (h8 : x < 8) : (crowdCells l).setIfInBounds x.toNat (.bool true) = crowdCells (l ++ [x]) := by
  have h : x = 0 ∨ x = 1 ∨ x = 2 ∨ x = 3 ∨ x = 4 ∨ x = 5 ∨ x = 6 ∨ x = 7 := by omega
  rcases h with rfl | rfl | rfl | rfl | rfl | rfl | rfl | rfl <;> simp [crowdCells, has_snoc]

/-- The person before place k, or -1 at the start. -/
def lastOf (l : List Int) (k : Nat) : Int := if k = 0 then -1 else l.getD (k - 1) 0
theorem lastOf_zero (l : List Int) : lastOf l 0 = -1 := rfl
theorem lastOf_next (l : List Int) {k : Nat} (hk : k < l.length) : lastOf l (k + 1) = l[k] := by simp [lastOf, hk]
theorem lastOf_ge {l : List Int} {hi : Int} {k : Nat} (h : StepsTo l hi k) : -1 ≤ lastOf l k := by
  by_cases h0 : k = 0
  · simp [lastOf, h0]
  · have := (h (k - 1) (by omega)).1
    rw [lastOf, if_neg h0]
    omega
theorem step_of {l : List Int} {hi : Int} {k : Nat} (h : StepsTo l hi k) (hk : k < l.length) (h1 : lastOf l k < l[k]) (h2 : l[k] ≤ hi) : Step l hi k := by
  have hg := lastOf_ge h
  refine ⟨by rw [getD_at l hk]; omega, by rw [getD_at l hk]; exact h2, ?_⟩
  by_cases h0 : k = 0
  · exact .inl h0
  · right
    rw [lastOf, if_neg h0] at h1
    rw [getD_at l hk]
    exact h1
theorem nostep_last {l : List Int} {hi : Int} {k : Nat} (hk : k < l.length) (h : l[k] ≤ lastOf l k) : ¬ Step l hi k := by
  rintro ⟨h1, -, h3⟩
  rw [getD_at l hk] at h1 h3
  by_cases h0 : k = 0
  · subst h0
    rw [lastOf_zero] at h
    omega
  · rw [lastOf, if_neg h0] at h
    rcases h3 with h3 | h3
    · exact h0 h3
    · omega
theorem nostep_hi {l : List Int} {hi : Int} {k : Nat} (hk : k < l.length) (h : hi < l[k]) : ¬ Step l hi k := by
  rintro ⟨-, h2, -⟩
  rw [getD_at l hk] at h2
  omega
theorem trip_len {n : Nat} {s : Int} {l : List Int} (h : (l.length : Int) < 1 ∨ s < l.length) : isTrip n s l = false := by simp [isTrip, within_no h]
theorem trip_no {n : Nat} {s : Int} {l : List Int} {k : Nat} (hk : k < l.length) (h : ¬ Step l (n - 1) k) : isTrip n s l = false := by simp [isTrip, rising_no hk h]
theorem trip_yes {n : Nat} {s : Int} {l : List Int} (h1 : 1 ≤ (l.length : Int)) (h2 : (l.length : Int) ≤ s) (h : StepsTo l (n - 1) l.length) : isTrip n s l = true := by
  simp [isTrip, within_yes h1 h2, rising_yes h (Nat.le_refl _)]

theorem crowd_cells {w : World} {g : Nat} {ty : TypeId} {l : List Int} (h : Whole w g ty (crowdCells l)) :
    w.cell? ⟨g, 0, none⟩ = some (.bool (has l 0)) ∧ w.cell? ⟨g, 1, none⟩ = some (.bool (has l 1)) ∧ w.cell? ⟨g, 2, none⟩ = some (.bool (has l 2)) ∧ w.cell? ⟨g, 3, none⟩ = some (.bool (has l 3)) ∧
    w.cell? ⟨g, 4, none⟩ = some (.bool (has l 4)) ∧ w.cell? ⟨g, 5, none⟩ = some (.bool (has l 5)) ∧ w.cell? ⟨g, 6, none⟩ = some (.bool (has l 6)) ∧ w.cell? ⟨g, 7, none⟩ = some (.bool (has l 7)) :=
  ⟨(h.cell 0).trans rfl, (h.cell 1).trans rfl, (h.cell 2).trans rfl, (h.cell 3).trans rfl, (h.cell 4).trans rfl, (h.cell 5).trans rfl, (h.cell 6).trans rfl, (h.cell 7).trans rfl⟩
theorem crowd_open {w : World} {g : Nat} {ty : TypeId} {cs : Array Value} (h : Whole w g ty cs) :
    w.frozen? ⟨g, 0, none⟩ = false ∧ w.frozen? ⟨g, 1, none⟩ = false ∧ w.frozen? ⟨g, 2, none⟩ = false ∧ w.frozen? ⟨g, 3, none⟩ = false ∧ w.frozen? ⟨g, 4, none⟩ = false ∧ w.frozen? ⟨g, 5, none⟩ = false ∧ w.frozen? ⟨g, 6, none⟩ = false ∧ w.frozen? ⟨g, 7, none⟩ = false :=
  ⟨h.open_ 0, h.open_ 1, h.open_ 2, h.open_ 3, h.open_ 4, h.open_ 5, h.open_ 6, h.open_ 7⟩
theorem set_crowd {w : World} {g B : Nat} {a : World} {v0 v1 v2 v3 v4 v5 v6 v7 : Value} (h : Below B a w) (hg : B ≤ g) :
    Below B a ((((((((w.setCell ⟨g, 0, none⟩ v0).setCell ⟨g, 1, none⟩ v1).setCell ⟨g, 2, none⟩ v2).setCell ⟨g, 3, none⟩ v3).setCell ⟨g, 4, none⟩ v4).setCell ⟨g, 5, none⟩ v5).setCell ⟨g, 6, none⟩ v6).setCell ⟨g, 7, none⟩ v7) :=
  below_set (below_set (below_set (below_set (below_set (below_set (below_set (below_set h hg) hg) hg) hg) hg) hg) hg) hg

/-- What crowdOf hands back. -/
def CrowdPost (n : Nat) (s : Int) (l : List Int) (w : World) (e : Ending) (w' : World) : Prop :=
  ((isTrip n s l = true ∧ e = .returned (.tuple #[.agg (crowdCells l), .bool true])) ∨ (isTrip n s l = false ∧ e = .returned (.tuple #[.agg (crowdCells []), .bool false]))) ∧ Below w.heap.size w w'

/-- The slowest of the first k people who are on the list, as the program finds it. -/
def slowTo (xs l : List Int) : Nat → Int
  | 0 => 0
  | k + 1 => if has l k = true then max (slowTo xs l k) (xs.getD k 0) else slowTo xs l k
theorem slowTo_yes {xs l : List Int} {k : Nat} (h : has l k = true) : slowTo xs l (k + 1) = max (slowTo xs l k) (xs.getD k 0) := if_pos h
theorem slowTo_no {xs l : List Int} {k : Nat} (h : has l k = false) : slowTo xs l (k + 1) = slowTo xs l k := if_neg (by simp [h])
theorem slowTo_le (xs l : List Int) (k : Nat) (b : Int) : slowTo xs l k ≤ b ↔ 0 ≤ b ∧ ∀ i, i < k → has l i = true → xs.getD i 0 ≤ b := by
  induction k with
  | zero => simp [slowTo]
  | succ k ih =>
    cases h : has l k
    · rw [slowTo_no h, ih]
      refine ⟨fun hh => ⟨hh.1, fun i hi hp => ?_⟩, fun hh => ⟨hh.1, fun i hi => hh.2 i (by omega)⟩⟩
      rcases Nat.lt_succ_iff_lt_or_eq.1 hi with hl | rfl
      · exact hh.2 i hl hp
      · rw [h] at hp; cases hp
    · rw [slowTo_yes h]
      constructor
      · intro hh
        have h1 := ih.1 (show slowTo xs l k ≤ b by omega)
        refine ⟨h1.1, fun i hi hp => ?_⟩
        rcases Nat.lt_succ_iff_lt_or_eq.1 hi with hl | rfl
        · exact h1.2 i hl hp
        · omega
      · intro hh
        have h1 := ih.2 ⟨hh.1, fun i hi => hh.2 i (by omega)⟩
        have h2 := hh.2 k (by omega) h
        omega
theorem slowOf_le (xs l : List Int) (b : Int) : slowOf xs l ≤ b ↔ 0 ≤ b ∧ ∀ x ∈ l, xs.getD x.toNat 0 ≤ b := by
  rw [slowOf, foldl_le]
  simp
theorem mem_steps {l : List Int} {hi x : Int} (h : StepsTo l hi l.length) (hx : x ∈ l) : 0 ≤ x ∧ x ≤ hi := by
  obtain ⟨k, hk, rfl⟩ := List.getElem_of_mem hx
  have hs := h k hk
  exact ⟨by have := hs.1; rw [getD_at l hk] at this; exact this, by have := hs.2.1; rw [getD_at l hk] at this; exact this⟩
theorem has_iff {l : List Int} {i : Nat} : has l i = true ↔ (i : Int) ∈ l := by
  simp only [has, List.any_eq_true, beq_iff_eq]
  exact ⟨fun ⟨x, hx, he⟩ => he ▸ hx, fun h => ⟨_, h, rfl⟩⟩
theorem slow_same {xs l : List Int} {n : Nat} (hs : StepsTo l (n - 1) l.length) : slowTo xs l n = slowOf xs l := by
  apply Int.le_antisymm
  · rw [slowTo_le]
    have h := (slowOf_le xs l (slowOf xs l)).1 (Int.le_refl _)
    exact ⟨h.1, fun i _ hp => by have := h.2 _ (has_iff.1 hp); simpa using this⟩
  · rw [slowOf_le]
    have h := (slowTo_le xs l n (slowTo xs l n)).1 (Int.le_refl _)
    refine ⟨h.1, fun x hx => ?_⟩
    have hm := mem_steps hs hx
    obtain ⟨i, rfl⟩ := Int.eq_ofNat_of_zero_le hm.1
    exact h.2 i (by omega) (has_iff.2 hx)

end Go.Proofs.Ytcoagbcleccmmaa

namespace Go.Proofs.Ytcoagbcleccmmaa
open Go.RowKit

/-- Two lists of one reading are the same. -/
theorem eqIntS_yes (A B : Option Addr) (n c d : Nat) (xs : List Int) (w : World) (hA : Holds w A (nums xs)) (hB : Holds w B (nums xs)) (hx : xs.length = n) (hn : n ≤ 9223372036854775807) :
    Calls Try.prog 26 #[.slice A n c, .slice B n d] w fun e w' => e = .returned (.bool true) ∧ Below w.heap.size w w' :=
  (eqIntS_any A B n n c d xs xs w hA hB hx hx hn hn).mono fun _ _ ⟨he, k, hw⟩ => ⟨by rw [he, sameInts_yes rfl], by rw [hw]; exact below_draws (Below.refl _ _) k⟩

/-- TripTime's number: 0 where the call fails. -/
noncomputable def tripTime (xs : List Int) (n : Nat) (s : Int) (l : List Int) : Int := if isParty xs s && isTrip n s l then slowOf xs l else 0
theorem tripTime_yes {xs l : List Int} {n : Nat} {s : Int} (h1 : isParty xs s = true) (h2 : isTrip n s l = true) : tripTime xs n s l = slowOf xs l := by simp [tripTime, h1, h2]
theorem tripTime_no1 {xs l : List Int} {n : Nat} {s : Int} (h1 : isParty xs s = false) : tripTime xs n s l = 0 := by simp [tripTime, h1]
theorem tripTime_no2 {xs l : List Int} {n : Nat} {s : Int} (h2 : isTrip n s l = false) : tripTime xs n s l = 0 := by simp [tripTime, h2]

theorem trip_steps {n : Nat} {s : Int} {l : List Int} (h : isTrip n s l = true) : StepsTo l (n - 1) l.length := by
  simp only [isTrip, Bool.and_eq_true] at h
  exact rising_steps h.2

end Go.Proofs.Ytcoagbcleccmmaa

namespace Go.Proofs.Ytcoagbcleccmmaa
open Go.RowKit

/-- All people of a list stand where t is. -/
def allAt (bs : List Bool) (t : Bool) (l : List Int) : Bool := l.all fun k => bs.getD k.toNat false == t
theorem allAt_no {bs : List Bool} {t : Bool} {l : List Int} {k : Nat} (hk : k < l.length) (h : bs.getD (l[k]).toNat false ≠ t) : allAt bs t l = false := by
  rw [allAt, List.all_eq_false]
  exact ⟨l[k], List.getElem_mem hk, by simpa using h⟩
theorem allAt_yes {bs : List Bool} {t : Bool} {l : List Int} (h : ∀ j (hj : j < l.length), bs.getD (l[j]).toNat false = t) : allAt bs t l = true := by
  rw [allAt, List.all_eq_true]
  intro x hx
  obtain ⟨j, hj, rfl⟩ := List.getElem_of_mem hx
  simpa using h j hj
/-- Can the people of a list cross? -/
noncomputable def canGo (n : Nat) (s : Int) (bs : List Bool) (t : Bool) (l : List Int) : Bool := isTrip n s l && allAt bs t l
def AtTo (bs : List Bool) (t : Bool) (l : List Int) (k : Nat) : Prop := ∀ j (h : j < l.length), j < k → bs.getD (l[j]).toNat false = t

end Go.Proofs.Ytcoagbcleccmmaa

namespace Go.Proofs.Ytcoagbcleccmmaa
open Go.RowKit

/-- Block g alone may have turned. -/
structure Only (g : Nat) (w w' : World) : Prop where
  os : w'.os = w.os
  tape : w'.tape = w.tape
  output : w'.output = w.output
  size : w'.heap.size = w.heap.size
  block : ∀ k, k ≠ g → w'.heap[k]? = w.heap[k]?

theorem Only.below {g B : Nat} {a w w' : World} (h : Only g w w') (hb : Below B a w) (hg : B ≤ g) : Below B a w' :=
  hb.trans ⟨h.os, h.tape, h.output, by rw [h.size]; exact Nat.le_refl _, fun k hk => h.block k (by omega)⟩
theorem Only.whole {g k : Nat} {w w' : World} {t : TypeId} {cs : Array Value} (h : Only g w w') (hw : Whole w k t cs) (hne : k ≠ g) : Whole w' k t cs := (h.block k hne).trans hw

section
variable {P : Program}
theorem only_setRow (w : World) (g : Nat) (cs : Array Value) : Only g w (w.setRow g cs) :=
  ⟨rfl, rfl, rfl, size_setRow w g cs, fun k hk => by simp [World.setRow, Array.getElem?_modify, Ne.symm hk]⟩
theorem whole_setRow {w : World} {g : Nat} {t : TypeId} {old : Array Value} (cs : Array Value) (h : Whole w g t old) : Whole (w.setRow g cs) g t cs := by
  unfold Whole at h ⊢
  simp [World.setRow, Array.getElem?_modify, h]

theorem wpList_store_whole {ops : Array Oper} {rest : List Oper} {o : Oper} {a : Act} {w : World} {Q : Exit → Act → World → Prop} (hgd : o.guard = none) (ty : TypeId) (x y : Operand) (ho : o.op = .store ty x y)
    (g : Nat) (cells : Array Value) (hx : a.eval x = .pointer (some ⟨g, 0, none⟩)) (hy : a.eval y = .agg cells)
    (t : TypeId) (old : Array Value) (hg : Whole w g t old) (hi : (P.info? ty).map (·.size) = some cells.size)
    (hold : old.size = cells.size) (h1 : cells.all (·.oneCell') = true)
    (h : ∀ w', Whole w' g t cells → Only g w w' → wpList P ops Q rest (a.put o.dst undef) w') : wpList P ops Q (o :: rest) a w :=
  wpList_store_row hgd ty x y ho g cells hx hy t old hg hi hold h1 (h _ (whole_setRow cells hg) (only_setRow w g cells))
end
end Go.Proofs.Ytcoagbcleccmmaa

namespace Go.Proofs.Ytcoagbcleccmmaa
open Go.RowKit

theorem and_of {a b x y : Bool} (h : a = x) (k : b = y) : (a && b) = (x && y) := by rw [h, k]

/-- What partyPlace hands back. -/
def PlacePost (n : Nat) (xs : List Int) (s : Int) (bs : List Bool) (t : Bool) (w : World) (e : Ending) (w' : World) : Prop :=
  (((isParty xs s && isState n bs t) = true ∧ e = .returned (.tuple #[.agg (placeCells bs t), .bool true])) ∨ ((isParty xs s && isState n bs t) = false ∧ e = .returned (.tuple #[.agg (placeCells [] false), .bool false]))) ∧ Below w.heap.size w w'

/-- The first k people: who is on the list stands where t is. -/
def HoldTo (bs : List Bool) (t : Bool) (l : List Int) (k : Nat) : Prop := ∀ i, i < k → has l i = true → bs.getD i false = t
theorem HoldTo.next {bs : List Bool} {t : Bool} {l : List Int} {k : Nat} (h : HoldTo bs t l k) (hk : has l k = true → bs.getD k false = t) : HoldTo bs t l (k + 1) := fun i hi =>
  (Nat.lt_succ_iff_lt_or_eq.1 hi).elim (h i) (fun e => e ▸ hk)
theorem place_at (bs : List Bool) (t : Bool) {i : Nat} (h : i < 8) : (placeCells bs t)[i]? = some (.bool (bs.getD i false)) := by
  match i, h with
  | 0, _ => rfl
  | 1, _ => rfl
  | 2, _ => rfl
  | 3, _ => rfl
  | 4, _ => rfl
  | 5, _ => rfl
  | 6, _ => rfl
  | 7, _ => rfl
theorem at_of_hold {bs : List Bool} {t : Bool} {l : List Int} {n : Nat} (hs : StepsTo l (n - 1) l.length) (hn : n ≤ 8) (h : HoldTo bs t l 8) : allAt bs t l = true :=
  allAt_yes fun j hj => by
    have hm := mem_steps hs (List.getElem_mem hj)
    exact h (l[j]).toNat (by omega) (has_iff.2 (by rw [Int.toNat_of_nonneg hm.1]; exact List.getElem_mem hj))
theorem at_not {bs : List Bool} {t : Bool} {l : List Int} {i : Nat} (h : has l i = true) (hne : bs.getD i false ≠ t) : allAt bs t l = false := by
  rw [allAt, List.all_eq_false]
  exact ⟨(i : Int), has_iff.1 h, by simpa using hne⟩

theorem can_of {n : Nat} {s : Int} {bs : List Bool} {t : Bool} {l : List Int} {x y : Bool} (h : isTrip n s l = x) (k : allAt bs t l = y) : canGo n s bs t l = (x && y) := and_of h k
theorem crowd_one (l : List Int) : (crowdCells l).all (·.oneCell') = true := by simp [crowdCells, Value.oneCell']

/-- What tripOf hands back. -/
def TripPost (n : Nat) (s : Int) (bs : List Bool) (t : Bool) (l : List Int) (w : World) (e : Ending) (w' : World) : Prop :=
  ((canGo n s bs t l = true ∧ e = .returned (.tuple #[.agg (crowdCells l), .bool true])) ∨ (canGo n s bs t l = false ∧ e = .returned (.tuple #[.agg (crowdCells []), .bool false]))) ∧ Below w.heap.size w w'

end Go.Proofs.Ytcoagbcleccmmaa

namespace Go.Proofs.Ytcoagbcleccmmaa
open Go.RowKit

/-- What a call hands back that makes a list of truth values. -/
def BitsPost (bs : List Bool) (w : World) (e : Ending) (w' : World) : Prop :=
  ∃ (A : Option Addr) (c : Nat), e = .returned (.slice A bs.length c) ∧ Fresh w' w.heap.size w'.heap.size 4 A (bits bs) ∧ Below w.heap.size w w'
/-- What a call hands back that makes a state and tells whether it did. -/
def StatePost (bs : List Bool) (t ok : Bool) (w : World) (e : Ending) (w' : World) : Prop :=
  ∃ (A : Option Addr) (c : Nat), e = .returned (.tuple #[.agg #[.slice A bs.length c, .bool t], .bool ok]) ∧ Fresh w' w.heap.size w'.heap.size 4 A (bits bs) ∧ Below w.heap.size w w'

theorem bits_one (bs : List Bool) : ∀ u ∈ bits bs, u.oneCell' = true := by
  intro v hv
  simp only [bits, List.mem_map] at hv
  obtain ⟨x, -, rfl⟩ := hv
  rfl

/-- So many people, none over. -/
def falses (n : Nat) : List Bool := List.replicate n false
theorem falses_len (n : Nat) : (falses n).length = n := by simp [falses]

/-- The places of the first state: none where there is no party. -/
def firstBits (xs : List Int) (n : Nat) (s : Int) : List Bool := if isParty xs s then falses n else []
theorem firstBits_le (xs : List Int) (n : Nat) (s : Int) : (firstBits xs n s).length ≤ n := by
  rw [firstBits]
  split
  · rw [falses_len]; exact Nat.le_refl _
  · simp

end Go.Proofs.Ytcoagbcleccmmaa

namespace Go.Proofs.Ytcoagbcleccmmaa
open Go.RowKit

/-- What a call hands back that makes a state. -/
def StateRes (bs : List Bool) (t : Bool) (w : World) (e : Ending) (w' : World) : Prop :=
  ∃ (A : Option Addr) (c : Nat), e = .returned (.agg #[.slice A bs.length c, .bool t]) ∧ Fresh w' w.heap.size w'.heap.size 4 A (bits bs) ∧ Below w.heap.size w w'

theorem Fresh.set_out {w : World} {lo hi b o : Nat} {ty : TypeId} {A : Option Addr} {xs : List Value} {u : Value} (hf : Fresh w lo hi ty A xs) (hb : b < lo ∨ hi ≤ b) : Fresh (w.setCell ⟨b, o, none⟩ u) lo hi ty A xs := by
  rcases hf with rfl | ⟨g, cs, hA, h1, h2, hw, h3, h4⟩
  · exact .inl rfl
  · exact .inr ⟨g, cs, hA, h1, h2, hw.off (by omega), h3, h4⟩

theorem falses_get (n i : Nat) : (falses n).getD i false = false := by
  simp only [falses, List.getD_eq_getElem?_getD, List.getElem?_replicate]
  split <;> rfl
theorem place_falses (n : Nat) : placeCells (falses n) false = placeCells [] false := by
  simp only [placeCells, falses_get]
  rfl

end Go.Proofs.Ytcoagbcleccmmaa

namespace Go.Proofs.Ytcoagbcleccmmaa
open Go.RowKit

theorem info_byte : (Try.prog.info? 5).map (fun i => (i.zero, i.size, i.bytes)) = some (some (.int .u8 0), 1, 1) := by kernel_rfl

theorem own_slice {w : World} {base : Nat} {e : TypeId} {size : Nat} {v : Value} {n : Nat} {xs : List Value} (h : w.ownsRow base e size v (n + 1) xs) : ∃ g cap, v = .slice (some ⟨g, 0, none⟩) (n + 1) cap := by
  obtain ⟨-, ⟨-, h⟩ | ⟨g, cap, -, hv, -⟩⟩ := h
  · omega
  · exact ⟨g, cap, hv⟩
theorem cells_fresh (w : World) (ty : TypeId) (cs : Array Value) : ∀ j u, cs.toList[j]? = some u → (w.alloc (.cells cs ty)).cell? ((⟨w.heap.size, 0, none⟩ : Addr).add j) = some u := fun j u hu => by
  rw [show (⟨w.heap.size, 0, none⟩ : Addr).add j = ⟨w.heap.size, j, none⟩ from by unfold Addr.add; split <;> simp_all, (Whole.fresh w ty cs).cell j]
  simpa using hu

end Go.Proofs.Ytcoagbcleccmmaa

namespace Go.Proofs.Ytcoagbcleccmmaa
open Go.RowKit

/-- So many people, all over. -/
def trues (n : Nat) : List Bool := List.replicate n true
theorem trues_len (n : Nat) : (trues n).length = n := by simp [trues]
theorem trues_next (n : Nat) : bits (trues n) ++ [.bool true] = bits (trues (n + 1)) := by
  simp [bits, trues, List.replicate_succ']

/-- The places of the last state: none where there is no party. -/
def lastBits (xs : List Int) (n : Nat) (s : Int) : List Bool := if isParty xs s then trues n else []
theorem lastBits_le (xs : List Int) (n : Nat) (s : Int) : (lastBits xs n s).length ≤ n := by
  rw [lastBits]
  split
  · rw [trues_len]; exact Nat.le_refl _
  · simp

theorem place_over (n : Nat) (h : n < 8) : (placeCells (trues n) true).setIfInBounds n (.bool true) = placeCells (trues (n + 1)) true := by
  match n, h with
  | 0, _ => rfl
  | 1, _ => rfl
  | 2, _ => rfl
  | 3, _ => rfl
  | 4, _ => rfl
  | 5, _ => rfl
  | 6, _ => rfl
  | 7, _ => rfl
theorem place_one (bs : List Bool) (t : Bool) : (placeCells bs t).all (·.oneCell') = true := by simp [placeCells, Value.oneCell']

end Go.Proofs.Ytcoagbcleccmmaa

namespace Go.Proofs.Ytcoagbcleccmmaa
open Go.RowKit

/-- The places behind a trip: those on the list have changed sides. -/
def flipped (bs : List Bool) (l : List Int) : List Bool := (List.range bs.length).map fun i => bs.getD i false != has l i
theorem flipped_len (bs : List Bool) (l : List Int) : (flipped bs l).length = bs.length := by simp [flipped]
theorem flipped_at (bs : List Bool) (l : List Int) {i : Nat} (h : i < bs.length) : (flipped bs l)[i]? = some (bs.getD i false != has l i) := by simp [flipped, h]
theorem flipped_get (bs : List Bool) (l : List Int) {i : Nat} (h : i < bs.length) : (flipped bs l).getD i false = (bs.getD i false != has l i) := by
  rw [List.getD_eq_getElem?_getD, flipped_at bs l h]; rfl
theorem flipped_out (bs : List Bool) (l : List Int) {i : Nat} (h : bs.length ≤ i) : (flipped bs l).getD i false = false := by
  rw [List.getD_eq_getElem?_getD, List.getElem?_eq_none (by rw [flipped_len]; exact h)]; rfl
theorem flipped_nil (bs : List Bool) : flipped bs [] = bs := by
  apply List.ext_getElem?
  intro i
  by_cases h : i < bs.length
  · rw [flipped_at bs [] h]; simp [has, h]
  · rw [List.getElem?_eq_none (by rw [flipped_len]; omega), List.getElem?_eq_none (by omega)]
theorem flipped_next (bs : List Bool) {l : List Int} {j : Nat} (hj : j < l.length) (h0 : 0 ≤ l[j]) : (flipped bs (l.take j)).set (l[j]).toNat (!(bs.getD (l[j]).toNat false)) = flipped bs (l.take (j + 1)) := by
  apply List.ext_getElem?
  intro i
  rw [List.getElem?_set, flipped_len]
  by_cases hi : i < bs.length
  · rw [flipped_at bs _ hi, flipped_at bs _ hi, List.take_succ_eq_append_getElem hj, has_snoc]
    by_cases he : (l[j]).toNat = i
    · have hx : (l[j] == (i : Int)) = true := by simp; omega
      rw [if_pos he, if_pos (by omega), he, hx]
      cases has (l.take j) i <;> cases bs.getD i false <;> rfl
    · have hx : (l[j] == (i : Int)) = false := by simp; omega
      rw [if_neg he, hx, Bool.or_false]
  · rw [List.getElem?_eq_none (l := flipped bs (l.take (j + 1))) (by rw [flipped_len]; omega)]
    by_cases he : (l[j]).toNat = i
    · rw [if_pos he, if_neg (by omega)]
    · rw [if_neg he, List.getElem?_eq_none (by rw [flipped_len]; omega)]
theorem has_out {l : List Int} {n i : Nat} (hs : StepsTo l (n - 1) l.length) (h : n ≤ i) : has l i = false := by
  cases hh : has l i
  · rfl
  · have := (mem_steps hs (has_iff.1 hh)).2
    omega

/-- Places and torch behind all trips. -/
def after : List Bool → Bool → List (List Int) → List Bool × Bool
  | bs, t, [] => (bs, t)
  | bs, t, l :: ls => after (flipped bs l) (!t) ls
theorem after_snoc (l : List Int) : ∀ (ls : List (List Int)) (bs : List Bool) (t : Bool), after bs t (ls ++ [l]) = (flipped (after bs t ls).1 l, !(after bs t ls).2)
  | [], _, _ => rfl
  | _ :: ls, _, _ => after_snoc l ls _ _
theorem after_len : ∀ (ls : List (List Int)) (bs : List Bool) (t : Bool), (after bs t ls).1.length = bs.length
  | [], _, _ => rfl
  | l :: ls, bs, _ => (after_len ls _ _).trans (flipped_len bs l)
/-- How many trips can be made. -/
noncomputable def made (n : Nat) (s : Int) : List Bool → Bool → List (List Int) → Nat
  | _, _, [] => 0
  | bs, t, l :: ls => if canGo n s bs t l then made n s (flipped bs l) (!t) ls + 1 else 0
theorem made_le (n : Nat) (s : Int) : ∀ (ls : List (List Int)) (bs : List Bool) (t : Bool), made n s bs t ls ≤ ls.length
  | [], _, _ => Nat.le_refl _
  | l :: ls, bs, t => by
    rw [made]
    split
    · have := made_le n s ls (flipped bs l) (!t); simp; omega
    · simp
/-- The first k trips can be made; the rest is still to be looked at. -/
def MadeTo (n : Nat) (s : Int) (bs : List Bool) (t : Bool) (ls : List (List Int)) (k : Nat) : Prop :=
  made n s bs t ls = k + made n s (after bs t (ls.take k)).1 (after bs t (ls.take k)).2 (ls.drop k)
theorem MadeTo.start (n : Nat) (s : Int) (bs : List Bool) (t : Bool) (ls : List (List Int)) : MadeTo n s bs t ls 0 := by simp [MadeTo, after]
theorem MadeTo.next {n : Nat} {s : Int} {bs : List Bool} {t : Bool} {ls : List (List Int)} {k : Nat} (h : MadeTo n s bs t ls k) (hk : k < ls.length) (hc : canGo n s (after bs t (ls.take k)).1 (after bs t (ls.take k)).2 ls[k] = true) : MadeTo n s bs t ls (k + 1) := by
  unfold MadeTo at h ⊢
  rw [h, List.drop_eq_getElem_cons hk, made, if_pos hc, List.take_succ_eq_append_getElem hk, after_snoc]
  dsimp only
  omega
theorem MadeTo.stop {n : Nat} {s : Int} {bs : List Bool} {t : Bool} {ls : List (List Int)} {k : Nat} (h : MadeTo n s bs t ls k) (hk : k < ls.length) (hc : canGo n s (after bs t (ls.take k)).1 (after bs t (ls.take k)).2 ls[k] = false) : made n s bs t ls = k := by
  unfold MadeTo at h
  rw [h, List.drop_eq_getElem_cons hk, made, if_neg (by simp [hc])]
  omega
theorem MadeTo.done {n : Nat} {s : Int} {bs : List Bool} {t : Bool} {ls : List (List Int)} {k : Nat} (h : MadeTo n s bs t ls k) (hk : ls.length ≤ k) : made n s bs t ls = k := by
  unfold MadeTo at h
  rw [h, List.drop_eq_nil_of_le hk, made]
  omega
/-- Places and torch behind the trips that can be made. -/
noncomputable def ended (n : Nat) (s : Int) (bs : List Bool) (t : Bool) (ls : List (List Int)) : List Bool × Bool := after bs t (ls.take (made n s bs t ls))
theorem ended_len (n : Nat) (s : Int) (bs : List Bool) (t : Bool) (ls : List (List Int)) : (ended n s bs t ls).1.length = bs.length := after_len _ _ _
theorem can_steps {n : Nat} {s : Int} {bs : List Bool} {t : Bool} {l : List Int} (h : canGo n s bs t l = true) : StepsTo l (n - 1) l.length := by
  simp only [canGo, Bool.and_eq_true] at h
  exact trip_steps h.1
theorem trip_short {n : Nat} {s : Int} {l : List Int} (h : isTrip n s l = true) : (l.length : Int) ≤ s := by
  simp only [isTrip, Bool.and_eq_true] at h
  exact (within_iff.1 h.1).2
end Go.Proofs.Ytcoagbcleccmmaa

namespace Go.Proofs.Ytcoagbcleccmmaa
open Go.RowKit

/-- One cell of the place while the first k people are looked at. -/
def crossAt (bs : List Bool) (l : List Int) (k i : Nat) : Bool := if i < k then bs.getD i false != has l i else bs.getD i false
def crossTo (bs : List Bool) (t : Bool) (l : List Int) (k : Nat) : Array Value := #[.bool (crossAt bs l k 0), .bool (crossAt bs l k 1), .bool (crossAt bs l k 2), .bool (crossAt bs l k 3), .bool (crossAt bs l k 4), .bool (crossAt bs l k 5), .bool (crossAt bs l k 6), .bool (crossAt bs l k 7), .bool t]
theorem crossAt_here (bs : List Bool) (l : List Int) (k : Nat) : crossAt bs l k k = bs.getD k false := by simp [crossAt]
theorem cross_get (bs : List Bool) (t : Bool) (l : List Int) {k : Nat} (h : k < 8) : (crossTo bs t l k)[k]? = some (.bool (bs.getD k false)) := by
  rw [← crossAt_here bs l k]
  match k, h with
  | 0, _ => rfl
  | 1, _ => rfl
  | 2, _ => rfl
  | 3, _ => rfl
  | 4, _ => rfl
  | 5, _ => rfl
  | 6, _ => rfl
  | 7, _ => rfl
theorem cross_skip (bs : List Bool) (t : Bool) {l : List Int} {k : Nat} (h : has l k = false) : crossTo bs t l (k + 1) = crossTo bs t l k := by
  have hh : ∀ i, crossAt bs l (k + 1) i = crossAt bs l k i := by
    intro i
    unfold crossAt
    by_cases h1 : i < k
    · rw [if_pos h1, if_pos (by omega)]
    · by_cases h2 : i = k
      · subst h2; rw [if_pos (by omega), if_neg h1, h]; cases bs.getD i false <;> rfl
      · rw [if_neg h1, if_neg (by omega)]
  simp only [crossTo, hh]
theorem cross_turn (bs : List Bool) (t : Bool) {l : List Int} {k : Nat} (hk : k < 8) (h : has l k = true) : (crossTo bs t l k).setIfInBounds k (.bool (!(bs.getD k false))) = crossTo bs t l (k + 1) := by
  have h1 : crossAt bs l (k + 1) k = !(bs.getD k false) := by
    unfold crossAt; rw [if_pos (by omega), h]; cases bs.getD k false <;> rfl
  have hh : ∀ i, i ≠ k → crossAt bs l (k + 1) i = crossAt bs l k i := by
    intro i hi
    unfold crossAt
    by_cases h1 : i < k
    · rw [if_pos h1, if_pos (by omega)]
    · rw [if_neg h1, if_neg (by omega)]
  rw [← h1]
  unfold crossTo
  match k, hk with
  | 0, _ => simp [hh]
  | 1, _ => simp [hh]
  | 2, _ => simp [hh]
  | 3, _ => simp [hh]
  | 4, _ => simp [hh]
  | 5, _ => simp [hh]
  | 6, _ => simp [hh]
  | 7, _ => simp [hh]
theorem cross_start (bs : List Bool) (t : Bool) (l : List Int) : placeCells bs t = crossTo bs t l 0 := by simp [placeCells, crossTo, crossAt]
theorem cross_end {bs : List Bool} {t : Bool} {l : List Int} (h : ∀ i, bs.length ≤ i → has l i = false) : (crossTo bs t l 8).setIfInBounds 8 (.bool (!t)) = placeCells (flipped bs l) (!t) := by
  have hh : ∀ i, i < 8 → crossAt bs l 8 i = (flipped bs l).getD i false := by
    intro i hi
    rw [crossAt, if_pos hi]
    by_cases h1 : i < bs.length
    · rw [flipped_get bs l h1]
    · rw [flipped_out bs l (by omega), h i (by omega), List.getD_eq_getElem?_getD, List.getElem?_eq_none (by omega)]; rfl
  simp only [crossTo, placeCells, hh 0 (by omega), hh 1 (by omega), hh 2 (by omega), hh 3 (by omega), hh 4 (by omega), hh 5 (by omega), hh 6 (by omega), hh 7 (by omega)]
  rfl
theorem cross_one (bs : List Bool) (t : Bool) (l : List Int) (k : Nat) : (crossTo bs t l k).all (·.oneCell') = true := by simp [crossTo, Value.oneCell']

end Go.Proofs.Ytcoagbcleccmmaa

namespace Go.Proofs.Ytcoagbcleccmmaa
open Go.RowKit

/-- Behind such a statement: the struct lies in block g, its list in blocks from lo on and before hi. -/
def ResMid (ty ety : TypeId) (mk : Option Addr → Nat → Array Value) (xs : List Value) (ok : Bool) (W : World) (v u : Value) (wx : World) : Prop :=
  ∃ (g : Nat) (A : Option Addr) (q lo hi : Nat), v = .pointer (some ⟨g, 0, none⟩) ∧ u = .bool ok ∧ W.heap.size ≤ g ∧ g < wx.heap.size ∧ W.heap.size ≤ lo ∧ (g < lo ∨ hi ≤ g) ∧ hi ≤ wx.heap.size ∧ Whole wx g ty (mk A q) ∧ Fresh wx lo hi ety A xs ∧ Below W.heap.size W wx
theorem ResMid.last {ty ety : TypeId} {mk : Option Addr → Nat → Array Value} {xs : List Value} {ok : Bool} {W w : World} {A : Option Addr} {q lo : Nat} (hc : Below W.heap.size W w) (hl : W.heap.size ≤ lo) (hF : Fresh w lo w.heap.size ety A xs) :
    ResMid ty ety mk xs ok W (.pointer (some ⟨w.heap.size, 0, none⟩)) (.bool ok) (w.alloc (.cells (mk A q) ty)) :=
  ⟨_, A, q, lo, w.heap.size, rfl, rfl, hc.size, by simp, hl, .inr (Nat.le_refl _), by simp, Whole.fresh _ _ _, hF.alloc _, hc.alloc hc.size _⟩
theorem ResMid.first {ty ety : TypeId} {mk : Option Addr → Nat → Array Value} {xs : List Value} {ok : Bool} {W w : World} {A : Option Addr} {q lo g : Nat} {a b c d : Value} (hc : Below W.heap.size W w) (hl : W.heap.size ≤ lo) (hF : Fresh w lo w.heap.size ety A xs) (hg : W.heap.size ≤ g) (hgl : g < lo) (hw : Whole w g ty #[a, b]) (hm : mk A q = #[c, d]) :
    ResMid ty ety mk xs ok W (.pointer (some ⟨g, 0, none⟩)) (.bool ok) ((w.setCell ⟨g, 0, none⟩ c).setCell ⟨g, 1, none⟩ d) := by
  have h := hw.lt
  refine ⟨g, A, q, lo, w.heap.size, rfl, rfl, hg, by simpa [World.setCell] using h, hl, .inl hgl, by simp [World.setCell], ?_, (hF.set_out (.inl hgl)).set_out (.inl hgl), below_set (below_set hc hg) hg⟩
  rw [hm]
  exact (hw.set_ 0 c).set_ 1 d
end Go.Proofs.Ytcoagbcleccmmaa

namespace Go.Proofs.Ytcoagbcleccmmaa
open Go.RowKit

/-- What a call hands back that makes a list to which more can be appended. -/
def OwnPost (xs : List Int) (w : World) (e : Ending) (w' : World) : Prop :=
  ∃ (A : Option Addr) (c : Nat), e = .returned (.slice A xs.length c) ∧ w'.ownsRow w.heap.size 3 1 (.slice A xs.length c) xs.length (nums xs) ∧ Below w.heap.size w w'
theorem ints_one (xs : List Int) : ∀ u ∈ nums xs, u.oneCell' = true := by
  intro v hv
  simp only [nums, List.mem_map] at hv
  obtain ⟨x, -, rfl⟩ := hv
  rfl
theorem own_some {w : World} {base : Nat} {e : TypeId} {A : Option Addr} {n c : Nat} {xs : List Value} (h : w.ownsRow base e 1 (.slice A n c) n xs) : (A = none ∧ n = 0 ∧ c = 0) ∨ ∃ g, A = some ⟨g, 0, none⟩ ∧ n ≤ c := by
  obtain ⟨-, ⟨hv, hn⟩ | ⟨g, cap, cur, hv, -, -, h1, -⟩⟩ := h
  · obtain ⟨rfl, -, rfl⟩ : A = none ∧ n = 0 ∧ c = 0 := by simpa using hv
    exact .inl ⟨rfl, hn, rfl⟩
  · obtain ⟨rfl, -, rfl⟩ : A = some ⟨g, 0, none⟩ ∧ n = n ∧ c = cap := by simpa using hv
    exact .inr ⟨g, rfl, h1⟩

theorem own_shape {w : World} {base : Nat} {e : TypeId} {v : Value} {n : Nat} {xs : List Value} (h : w.ownsRow base e 1 v n xs) : ∃ (A : Option Addr) (c : Nat), v = .slice A n c := by
  obtain ⟨-, ⟨rfl, rfl⟩ | ⟨g, cap, cur, hv, -⟩⟩ := h
  · exact ⟨none, 0, rfl⟩
  · exact ⟨_, _, hv⟩

set_option maxHeartbeats 800000 in
set_option maxRecDepth 100000 in
theorem l1Own_any (A : Option Addr) (n c : Nat) (xs : List Int) (w : World) (hA : Holds w A (nums xs)) (hx : xs.length = n) (hn : n ≤ 1048576) (hc : A = none → c = 0) :
    Calls Try.prog 91 #[.slice A n c] w (OwnPost xs w) := by
  subst hx
  obtain ⟨i0, hi, hz0, hz1, hz2⟩ := info_parts info_int
  have HI := Lib.hid hi
  have HZ0 := Lib.hid hz0
  have HZ1 := Lib.hid hz1
  have HZ2 := Lib.hid hz2
  have HOWN := Lib.hid (World.ownsRow_made (base := w.heap.size) (e := 3) (size := 1) w #[] 0 (Nat.le_refl _) (by unfold maxLen; omega) rfl)
  have HB := Lib.hid (below1 w (.cells #[] 3))
  clear hi hz0 hz1 hz2
  cases A with
  | none =>
    have h0 : xs = [] := by
      rcases hA with h | ⟨b, o, h, -⟩
      · simpa [nums] using h
      · cases h
    subst h0
    obtain rfl := hc rfl
    go_enter Try.func91, Try.ntmps91
    go_wp2_with (at_builtin; refine wpList_append_own_none rfl (.tmp 3) (.tmp 4) 39 rfl w.heap.size 3 i0 1 Try.underlying39 HI.out _ 0 [] rfl HOWN.out rfl ?_)
    go_ret
    exact ⟨_, 0, rfl, HOWN.out, HB.out⟩
  | some ad =>
    have hnews : ∀ j u, (nums xs)[j]? = some u → (w.alloc (.cells #[] 3)).cell? (ad.add j) = some u := fun j u hu => by
      rcases hA with h | ⟨b, o, h, hb, hcell⟩
      · rw [h] at hu; simp at hu
      · obtain rfl : ad = ⟨b, o, none⟩ := by simpa using h
        rw [show (⟨b, o, none⟩ : Addr).add j = ⟨b, o + j, none⟩ from by unfold Addr.add; split <;> simp_all, World.cell?_alloc_lt _ _ _ hb]
        exact hcell j u hu
    have HNEWS := Lib.hid hnews
    have HLEN := Lib.hid (show (nums xs).length = xs.length * 1 by rw [nums_len, Nat.mul_one])
    have HONE := Lib.hid (ints_one xs)
    have HMAX := Lib.hid (show 0 + xs.length ≤ maxLen by unfold maxLen; omega)
    have HBYT := Lib.hid (show (0 + xs.length) * 8 ≤ 140737488355328 by omega)
    clear hnews hc
    go_enter Try.func91, Try.ntmps91
    go_wp2_with (at_builtin; refine wpList_append_own _ rfl (.tmp 3) (.tmp 4) 39 rfl w.heap.size 3 i0 (.int .i64 0) 1 8 Try.underlying39 HI.out HZ0.out HZ1.out HZ2.out rfl (by decide) _ 0 [] rfl HOWN.out ad xs.length c (nums xs) rfl HLEN.out HNEWS.out HONE.out HMAX.out HBYT.out (by simp) ?_; intro v' w1 hown1 hg1 _)
    go_ret
    simp only [Nat.zero_add, List.nil_append] at hown1
    have hbe := HB.out.grown hg1 (by simp) (fun k hk => Nat.le_of_eq (Option.some.inj (show some w.heap.size = some k from hk)))
    obtain ⟨A1, c1, rfl⟩ := own_shape hown1
    exact ⟨A1, c1, rfl, hown1, hbe⟩
end Go.Proofs.Ytcoagbcleccmmaa

namespace Go.Proofs.Ytcoagbcleccmmaa
open Go.RowKit

/-- What a call hands back that makes a list of numbers. -/
def NumsPost (bs : List Int) (w : World) (e : Ending) (w' : World) : Prop :=
  ∃ (A : Option Addr) (c : Nat), e = .returned (.slice A bs.length c) ∧ Fresh w' w.heap.size w'.heap.size 3 A (nums bs) ∧ Below w.heap.size w w'
/-- What a call hands back that makes a party and tells whether it did. -/
def PartyPost (xs : List Int) (s : Int) (ok : Bool) (w : World) (e : Ending) (w' : World) : Prop :=
  ∃ (A : Option Addr) (c : Nat), e = .returned (.tuple #[.agg #[.slice A xs.length c, .int .i64 s], .bool ok]) ∧ Fresh w' w.heap.size w'.heap.size 3 A (nums xs) ∧ Below w.heap.size w w'

theorem nums_one (bs : List Int) : ∀ u ∈ nums bs, u.oneCell' = true := by
  intro v hv
  simp only [nums, List.mem_map] at hv
  obtain ⟨x, -, rfl⟩ := hv
  rfl

set_option maxHeartbeats 800000 in
set_option maxRecDepth 100000 in
theorem cloneI_any (b o n d : Nat) (bs : List Int) (w : World) (hB : ∀ j u, (nums bs)[j]? = some u → w.cell? ⟨b, o + j, none⟩ = some u) (hy : bs.length = n) (hn : n ≤ 1048576) :
    Calls Try.prog 85 #[.slice (some ⟨b, o, none⟩) n d] w (NumsPost bs w) := by
  subst hy
  obtain ⟨i0, hi, hz0, hz1, hz2⟩ := info_parts info_int
  have HI := Lib.hid hi
  have HZ0 := Lib.hid hz0
  have HZ1 := Lib.hid hz1
  have HZ2 := Lib.hid hz2
  have HB := Lib.hid hB
  clear hi hz0 hz1 hz2 hB
  go_enter Try.func85, Try.ntmps85
  have hnil := fun (W : World) => Lib.run_eql_slice_nil (P := Try.prog) W 39 3 (some ⟨b, o, none⟩) bs.length d 0 0 Try.underlying39
  have HOWN := Lib.hid (World.ownsRow_made (base := w.heap.size) (e := 3) (size := 1) w #[] 0 (Nat.le_refl _) (by unfold maxLen; omega) rfl)
  have hnews : ∀ j u, (nums bs)[j]? = some u → (w.alloc (.cells #[] 3)).cell? ((⟨b, o, none⟩ : Addr).add j) = some u := fun j u hu => by
    rw [show (⟨b, o, none⟩ : Addr).add j = ⟨b, o + j, none⟩ from by unfold Addr.add; split <;> simp_all]
    have h := HB.out j u hu
    rw [World.cell?_alloc_lt _ _ _ (block_lt_of_cell h)]
    exact h
  have HNEWS := Lib.hid hnews
  have HLEN := Lib.hid (show (nums bs).length = bs.length * 1 by rw [nums_len, Nat.mul_one])
  have HONE := Lib.hid (nums_one bs)
  have HMAX := Lib.hid (show 0 + bs.length ≤ maxLen by unfold maxLen; omega)
  have HBYT := Lib.hid (show (0 + bs.length) * 8 ≤ 140737488355328 by omega)
  clear hnews
  go_wp2_with (at_builtin; refine wpList_append_own _ rfl (.tmp 5) (.tmp 6) 39 rfl w.heap.size 3 i0 (.int .i64 0) 1 8 Try.underlying39 HI.out HZ0.out HZ1.out HZ2.out rfl (by decide) _ 0 [] rfl HOWN.out ⟨b, o, none⟩ bs.length d (nums bs) rfl HLEN.out HNEWS.out HONE.out HMAX.out HBYT.out (by simp) ?_; intro v' w1 hown1 hg1 _)
  go_ret
  simp only [Nat.zero_add, List.nil_append] at hown1
  obtain ⟨A, c, hv, hf⟩ := Fresh.of_own hown1 (Nat.le_refl _)
  refine ⟨A, c, by rw [← hv]; rfl, hf, ?_⟩
  exact (below1 w _).grown hg1 (by simp) (fun k hk => Nat.le_of_eq (Option.some.inj (show some w.heap.size = some k from hk)))

/-- The times, each so many times as great. -/
def times (xs : List Int) (k : Int) : List Int := xs.map (· * k)
theorem times_len (xs : List Int) (k : Int) : (times xs k).length = xs.length := by simp [times]
def slowOk (xs : List Int) (s k : Int) : Bool := isParty xs s && (within k 1 1000 && isParty (times xs k) s)
def slowXs (xs : List Int) (s k : Int) : List Int := if slowOk xs s k then times xs k else []
def slowSeats (xs : List Int) (s k : Int) : Int := if slowOk xs s k then s else 0
theorem slow_of {xs : List Int} {s k : Int} {x : Bool} (h1 : isParty xs s = true) (h2 : within k 1 1000 = true) (h3 : isParty (times xs k) s = x) : slowOk xs s k = x := by simp [slowOk, h1, h2, h3]
theorem slowXs_le (xs : List Int) (s k : Int) : (slowXs xs s k).length ≤ xs.length := by
  rw [slowXs]
  split
  · rw [times_len]; exact Nat.le_refl _
  · simp
theorem slow_no {xs : List Int} {s k : Int} (h : slowOk xs s k = false) : slowXs xs s k = [] ∧ slowSeats xs s k = 0 := by simp [slowXs, slowSeats, h]
theorem slow_yes {xs : List Int} {s k : Int} (h : slowOk xs s k = true) : slowXs xs s k = times xs k ∧ slowSeats xs s k = s := by simp [slowXs, slowSeats, h]
theorem party_all {xs : List Int} {s : Int} (h : isParty xs s = true) : ∀ x ∈ xs, 1 ≤ x ∧ x ≤ 1000 := by
  simp only [isParty, Bool.and_eq_true] at h
  exact (allIn_iff _ _ _).1 h.2.1
theorem times_next {xs : List Int} {k : Int} {j : Nat} (hj : j < xs.length) : nums (times (xs.take j) k) ++ [.int .i64 (xs[j] * k)] = nums (times (xs.take (j + 1)) k) := by
  rw [List.take_succ_eq_append_getElem hj]
  simp only [nums, times, List.map_append, List.map_cons, List.map_nil]
theorem slow_iff {xs : List Int} {s k : Int} (hp : isParty xs s = true) (hk : 1 ≤ k) : slowOk xs s k = decide (mostOf xs ≤ 1000 / k) := by
  have hall := party_all hp
  have hne : xs ≠ [] := by
    rintro rfl
    simp [isParty, within] at hp
  have hd : ∀ x : Int, x ≤ 1000 / k ↔ x * k ≤ 1000 := fun x => Int.le_ediv_iff_mul_le (by omega)
  rw [Bool.eq_iff_iff, decide_eq_true_eq, mostOf_le hne]
  simp only [slowOk, hp, Bool.true_and, Bool.and_eq_true]
  constructor
  · rintro ⟨-, h⟩ x hx
    have := party_all h (x * k) (List.mem_map_of_mem hx)
    exact (hd x).2 this.2
  · intro h
    have hk2 : k ≤ 1000 := by
      obtain ⟨y, hy⟩ := List.exists_mem_of_ne_nil _ hne
      have h1 := (hd y).1 (h y hy)
      have h2 := (hall y hy).1
      have h3 : 1 * k ≤ y * k := Int.mul_le_mul_of_nonneg_right h2 (by omega)
      omega
    refine ⟨within_yes hk hk2, ?_⟩
    simp only [isParty, Bool.and_eq_true] at hp ⊢
    refine ⟨by rw [times_len]; exact hp.1, (allIn_iff _ _ _).2 fun y hy => ?_, hp.2.2⟩
    simp only [times, List.mem_map] at hy
    obtain ⟨x, hx, rfl⟩ := hy
    have h1 := (hd x).1 (h x hx)
    have h2 := (hall x hx).1
    have h3 : 1 * 1 ≤ x * k := Int.mul_le_mul h2 hk (by omega) (by omega)
    exact ⟨by omega, h1⟩

end Go.Proofs.Ytcoagbcleccmmaa

namespace Go.Proofs.Ytcoagbcleccmmaa
open Go.RowKit

/-- append onto a list of the call's own, as a step of a region that draws its order; nothing may be appended too. -/
theorem step_append_mine {P : Program} {ops : Array Oper} {o : Oper} {a : Act} {w : World} {K : Act → World → Prop} {Q : Exit → Act → World → Prop} {E : Prop}
    (hg : o.guard = none) (s x : Operand) (t : TypeId) (hop : o.op = Op.call { callee := Callee.builtin Builtin.append, args := #[s, x], argTypes := #[t, t] })
    (base : Nat) (e : TypeId) (i : TypeInfo) (z : Value) (size bytes : Nat) (h1 : P.underlying t = some (.slice e)) (h2 : P.info? e = some i) (h3 : i.zero = some z) (h4 : i.size = size) (h5 : i.bytes = bytes) (h6 : z.cells.size = size) (h7 : 0 < size)
    (v : Value) (n : Nat) (xs : List Value) (hs : a.eval s = v) (hown : w.ownsRow base e size v n xs)
    (ad : Addr) (m c : Nat) (news : List Value) (hx : a.eval x = .slice (some ad) m c) (hn : news.length = m * size) (hc : ∀ j u, news[j]? = some u → w.cell? (ad.add j) = some u) (h1c : ∀ u ∈ news, u.oneCell' = true)
    (b1 : n + m ≤ maxLen) (b2 : (n + m) * bytes ≤ 140737488355328) (b3 : base ≤ w.heap.size)
    (hK : ∀ v' w', w'.ownsRow base e size v' (n + m) (xs ++ news) → w.grownBy w' v.ownBlock → K (a.put o.dst v') w') :
    if Region.wanted o (yielded ops a.tmps) = true then Oper.wp P o a w K Q else E := by
  have hw : Region.wanted o (yielded ops a.tmps) = true := by simp [Region.wanted, hg]
  rw [if_pos hw]
  obtain ⟨v', w', hrun, r1, r2, _⟩ := run_append_own (P := P) w base t o.type e i z size bytes h1 h2 h3 h4 h5 h6 h7 v n xs hown ad m c news hn hc h1c b1 b2 b3
  unfold Oper.wp
  simp [execOp, hop, resolve, invoke, builtin, hs, hx, hrun, Result.andThen]
  exact hK v' w' r1 r2

/-- Whether there is a party without that person. -/
def dropOk (xs : List Int) (s k : Int) : Bool := isParty xs s && (within k 0 (xs.length - 1) && !decide ((xs.length : Int) = 1))
/-- The times without that person's. -/
def lessOne (xs : List Int) (k : Nat) : List Int := xs.take k ++ xs.drop (k + 1)
def dropXs (xs : List Int) (s k : Int) : List Int := if dropOk xs s k then lessOne xs k.toNat else []
def dropSeats (xs : List Int) (s k : Int) : Int := if dropOk xs s k then s else 0
theorem lessOne_le (xs : List Int) (k : Nat) : (lessOne xs k).length ≤ xs.length := by
  simp only [lessOne, List.length_append, List.length_take, List.length_drop]
  omega
theorem dropXs_le (xs : List Int) (s k : Int) : (dropXs xs s k).length ≤ xs.length := by
  rw [dropXs]
  split
  · exact lessOne_le _ _
  · simp
theorem drop_no {xs : List Int} {s k : Int} (h : dropOk xs s k = false) : dropXs xs s k = [] ∧ dropSeats xs s k = 0 := by simp [dropXs, dropSeats, h]
theorem drop_yes {xs : List Int} {s k : Int} (h : dropOk xs s k = true) : dropXs xs s k = lessOne xs k.toNat ∧ dropSeats xs s k = s := by simp [dropXs, dropSeats, h]
/-- Where the list behind a place lies: at the list's own address where no room is left behind that place. -/
theorem tail_at {w : World} {b o n c k : Nat} {xs : List Int} (hc : ∀ j u, (nums xs)[j]? = some u → w.cell? ⟨b, o + j, none⟩ = some u) (hx : xs.length = n) (hn : n ≤ c) :
    ∃ d, (if c = k + 1 then some (⟨b, o, none⟩ : Addr) else some ⟨b, o + (k + 1), none⟩) = some ⟨b, d, none⟩ ∧ Hid (∀ j u, (nums (xs.drop (k + 1)))[j]? = some u → w.cell? ⟨b, d + j, none⟩ = some u) := by
  by_cases h : c = k + 1
  · refine ⟨o, by simp [h], fun j u hu => ?_⟩
    have h0 : xs.drop (k + 1) = [] := List.drop_eq_nil_of_le (by omega)
    rw [h0] at hu
    simp [nums] at hu
  · refine ⟨o + (k + 1), by simp [h], fun j u hu => ?_⟩
    have := hc (k + 1 + j) u (by simpa [nums, List.getElem?_map, List.getElem?_drop] using hu)
    rw [show o + (k + 1) + j = o + (k + 1 + j) by omega]
    exact this
theorem head_at {w : World} {b o k : Nat} {xs : List Int} (hb : b < w.heap.size) (hc : ∀ j u, (nums xs)[j]? = some u → w.cell? ⟨b, o + j, none⟩ = some u) : Holds w (some ⟨b, o, none⟩) (nums (xs.take k)) := by
  refine .inr ⟨b, o, rfl, hb, fun j u hu => hc j u ?_⟩
  simp only [nums, List.getElem?_map, List.getElem?_take] at hu ⊢
  split at hu
  · exact hu
  · simp at hu

theorem dropOk_iff {xs : List Int} {s k : Int} : dropOk xs s k = true ↔ isParty xs s = true ∧ 0 ≤ k ∧ k < xs.length ∧ 2 ≤ xs.length := by
  simp only [dropOk, Bool.and_eq_true, Bool.not_eq_true', decide_eq_false_iff_not, within_iff]
  constructor
  · rintro ⟨h, h1, h2⟩
    exact ⟨h, by omega, by omega, by omega⟩
  · rintro ⟨h, h1, h2, h3⟩
    exact ⟨h, by omega, by omega⟩
end Go.Proofs.Ytcoagbcleccmmaa

namespace Go.Proofs.Ytcoagbcleccmmaa
open Go.RowKit

/-- The place at which a number goes among the first k of a list: behind the last one that is not greater. -/
def spot (l : List Int) (x : Int) : Nat → Nat
  | 0 => 0
  | k + 1 => if x < l.getD k 0 then spot l x k else k + 1
theorem spot_le (l : List Int) (x : Int) : ∀ k, spot l x k ≤ k
  | 0 => Nat.le_refl _
  | k + 1 => by
    rw [spot]
    split
    · have := spot_le l x k; omega
    · omega
theorem spot_down {l : List Int} {x : Int} {k : Nat} (h : x < l.getD k 0) : spot l x (k + 1) = spot l x k := if_pos h
theorem spot_here {l : List Int} {x : Int} {k : Nat} (h : ¬ x < l.getD k 0) : spot l x (k + 1) = k + 1 := if_neg h
def ins (l : List Int) (x : Int) : List Int := (l.take (spot l x l.length) ++ [x]) ++ l.drop (spot l x l.length)
theorem ins_len (l : List Int) (x : Int) : (ins l x).length = l.length + 1 := by
  have := spot_le l x l.length
  simp [ins]
  omega
def insTo (xs : List Int) (j : Nat) : List Int := (xs.take j).foldl ins []
theorem insTo_next {xs : List Int} {j : Nat} (h : j < xs.length) : insTo xs (j + 1) = ins (insTo xs j) xs[j] := by
  rw [insTo, List.take_succ_eq_append_getElem h, List.foldl_append]
  rfl
theorem insTo_len (xs : List Int) : ∀ {j : Nat}, j ≤ xs.length → (insTo xs j).length = j
  | 0, _ => rfl
  | j + 1, h => by rw [insTo_next h, ins_len, insTo_len xs (by omega)]
theorem own_lower {w : World} {base base' size : Nat} {e : TypeId} {v : Value} {n : Nat} {xs : List Value} (h : w.ownsRow base e size v n xs) (hb : base' ≤ base) : w.ownsRow base' e size v n xs := by
  obtain ⟨hl, h | ⟨g, cap, cur, hv, hg, r⟩⟩ := h
  · exact ⟨hl, .inl h⟩
  · exact ⟨hl, .inr ⟨g, cap, cur, hv, Nat.le_trans hb hg, r⟩⟩
theorem own_cells {w : World} {base : Nat} {e : TypeId} {g n c : Nat} {xs : List Value} (h : w.ownsRow base e 1 (.slice (some ⟨g, 0, none⟩) n c) n xs) : g < w.heap.size ∧ base ≤ g ∧ ∀ j u, xs[j]? = some u → w.cell? ⟨g, j, none⟩ = some u := by
  obtain ⟨hl, ⟨hv, -⟩ | ⟨g', cap, cur, hv, hg, hh, h1, h2, h3, h4⟩⟩ := h
  · cases hv
  · obtain ⟨rfl, rfl⟩ : g = g' ∧ c = cap := by simpa using hv
    have hw : Whole w g e cur := hh
    refine ⟨hw.lt, hg, fun j u hu => ?_⟩
    have hj : j < xs.length := (List.getElem?_eq_some_iff.1 hu).1
    rw [hw.cell j, ← hu]
    rw [hl] at hj
    have hj' : j < n := by omega
    have := congrArg (fun l : List Value => l[j]?) h4
    simpa [List.getElem?_take, hj, hj'] using this
theorem own_below {w w' : World} {base : Nat} {e : TypeId} {size : Nat} {v : Value} {n : Nat} {xs : List Value} (h : w.ownsRow base e size v n xs) (hb : Below w.heap.size w w') : w'.ownsRow base e size v n xs := by
  obtain ⟨hl, h | ⟨g, cap, cur, hv, hg, hh, r⟩⟩ := h
  · exact ⟨hl, .inl h⟩
  · exact ⟨hl, .inr ⟨g, cap, cur, hv, hg, (hb.block g (Array.getElem?_eq_some_iff.1 hh).1).trans hh, r⟩⟩

theorem cell_grown {w w' : World} {row : Option Nat} {g i : Nat} (h : w.grownBy w' row) (hl : g < w.heap.size) (hn : row ≠ some g) : w'.cell? ⟨g, i, none⟩ = w.cell? ⟨g, i, none⟩ := by
  have h1 := h.block g hl (fun e => hn e.symm)
  simp only [World.cell?, h1]

end Go.Proofs.Ytcoagbcleccmmaa

namespace Go.Proofs.Ytcoagbcleccmmaa
open Go.RowKit

theorem spot_lowQ {l : List Int} {x : Int} (hs : l.Pairwise (· ≤ ·)) : ∀ {k i : Nat}, k ≤ l.length → i < spot l x k → ∀ (h : i < l.length), l[i] ≤ x
  | 0, i, _, hi, _ => by simp [spot] at hi
  | k + 1, i, hk, hi, h => by
    by_cases hx : x < l.getD k 0
    · rw [spot_down hx] at hi
      exact spot_lowQ hs (by omega) hi h
    · rw [spot_here hx] at hi
      have hkl : k < l.length := by omega
      have hkx : l[k] ≤ x := by
        have : l.getD k 0 = l[k] := by simp [hkl]
        omega
      rcases Nat.lt_or_ge i k with h1 | h1
      · exact Int.le_trans (List.pairwise_iff_getElem.1 hs i k h hkl h1) hkx
      · obtain rfl : i = k := by omega
        exact hkx
theorem spot_highQ {l : List Int} {x : Int} : ∀ {k i : Nat}, spot l x k ≤ i → i < k → ∀ (h : i < l.length), x < l[i]
  | 0, i, _, hi, _ => by omega
  | k + 1, i, hs, hi, h => by
    by_cases hx : x < l.getD k 0
    · rw [spot_down hx] at hs
      rcases Nat.lt_or_ge i k with h1 | h1
      · exact spot_highQ hs h1 h
      · obtain rfl : i = k := by omega
        have : l.getD i 0 = l[i] := by simp [h]
        omega
    · rw [spot_here hx] at hs
      omega
theorem ins_permQ (l : List Int) (x : Int) : (ins l x).Perm (x :: l) := by
  have h := List.perm_middle (a := x) (l₁ := l.take (spot l x l.length)) (l₂ := l.drop (spot l x l.length))
  rw [List.take_append_drop] at h
  simpa [ins] using h
theorem ins_sortedQ {l : List Int} (x : Int) (hs : l.Pairwise (· ≤ ·)) : (ins l x).Pairwise (· ≤ ·) := by
  rw [ins, List.append_assoc, List.pairwise_append]
  refine ⟨hs.sublist (List.take_sublist _ _), ?_, fun a ha b hb => ?_⟩
  · rw [List.singleton_append, List.pairwise_cons]
    refine ⟨fun b hb => ?_, hs.sublist (List.drop_sublist _ _)⟩
    obtain ⟨i, hi, rfl⟩ := List.getElem_of_mem hb
    rw [List.getElem_drop]
    exact Int.le_of_lt (spot_highQ (k := l.length) (by omega) (by simp at hi; omega) (by simp at hi; omega))
  · obtain ⟨i, hi, rfl⟩ := List.getElem_of_mem ha
    rw [List.getElem_take]
    have hip : i < spot l x l.length := by simp at hi; omega
    have hil : i < l.length := by simp at hi; omega
    have hlx := spot_lowQ hs (Nat.le_refl _) hip hil
    rw [List.singleton_append, List.mem_cons] at hb
    rcases hb with rfl | hb
    · exact hlx
    · obtain ⟨j, hj, rfl⟩ := List.getElem_of_mem hb
      rw [List.getElem_drop]
      exact Int.le_of_lt (Int.lt_of_le_of_lt hlx (spot_highQ (k := l.length) (by omega) (by simp at hj; omega) (by simp at hj; omega)))
theorem insTo_sortedQ (xs : List Int) : ∀ {j : Nat}, j ≤ xs.length → (insTo xs j).Pairwise (· ≤ ·) ∧ (insTo xs j).Perm (xs.take j)
  | 0, _ => ⟨List.Pairwise.nil, List.Perm.refl _⟩
  | j + 1, h => by
    obtain ⟨h1, h2⟩ := insTo_sortedQ xs (j := j) (by omega)
    rw [insTo_next h]
    refine ⟨ins_sortedQ _ h1, (ins_permQ _ _).trans ?_⟩
    rw [List.take_succ_eq_append_getElem h]
    exact (h2.cons _).trans (List.perm_append_singleton _ _).symm

/-- The time of a person. -/
def tm (xs : List Int) (k : Int) : Int := xs.getD k.toNat 0
/-- The place at which a person goes among the first k of an order. -/
def spotO (xs o : List Int) (t : Int) (k : Nat) : Nat := spot (o.map (tm xs)) t k
def insO (xs o : List Int) (i t : Int) : List Int := (o.take (spotO xs o t o.length) ++ [i]) ++ o.drop (spotO xs o t o.length)
def ordTo (xs : List Int) (j : Nat) : List Int := (List.range j).foldl (fun o (i : Nat) => insO xs o (i : Int) (tm xs (i : Int))) []
theorem ordTo_next (xs : List Int) (j : Nat) : ordTo xs (j + 1) = insO xs (ordTo xs j) j (tm xs j) := by
  rw [ordTo, List.range_succ, List.foldl_append]
  rfl
theorem spotO_le (xs o : List Int) (t : Int) (k : Nat) : spotO xs o t k ≤ k := spot_le _ _ _
theorem spotO_down {xs o : List Int} {t : Int} {k : Nat} (hk : k < o.length) (h : t < tm xs (o.getD k 0)) : spotO xs o t (k + 1) = spotO xs o t k := by
  refine spot_down ?_
  simpa [hk] using h
theorem spotO_here {xs o : List Int} {t : Int} {k : Nat} (hk : k < o.length) (h : ¬ t < tm xs (o.getD k 0)) : spotO xs o t (k + 1) = k + 1 := by
  refine spot_here ?_
  simpa [hk] using h
theorem insO_len (xs o : List Int) (i t : Int) : (insO xs o i t).length = o.length + 1 := by
  have := spotO_le xs o t o.length
  simp [insO]
  omega
theorem ordTo_len (xs : List Int) : ∀ j, (ordTo xs j).length = j
  | 0 => rfl
  | j + 1 => by rw [ordTo_next, insO_len, ordTo_len xs j]
theorem insO_map {xs o : List Int} {i : Int} : (insO xs o i (tm xs i)).map (tm xs) = ins (o.map (tm xs)) (tm xs i) := by
  simp [insO, ins, spotO]
theorem tm_at {xs : List Int} {j : Nat} (h : j < xs.length) : tm xs (j : Int) = xs[j] := by simp [tm, h]
theorem ordTo_map (xs : List Int) : ∀ {j : Nat}, j ≤ xs.length → (ordTo xs j).map (tm xs) = insTo xs j
  | 0, _ => rfl
  | j + 1, h => by rw [ordTo_next, insO_map, ordTo_map xs (by omega), tm_at (by omega), insTo_next (by omega)]
theorem insO_perm (xs o : List Int) (i t : Int) : (insO xs o i t).Perm (i :: o) := by
  have h := List.perm_middle (a := i) (l₁ := o.take (spotO xs o t o.length)) (l₂ := o.drop (spotO xs o t o.length))
  rw [List.take_append_drop] at h
  simpa [insO] using h
theorem ordTo_mem (xs : List Int) : ∀ (j : Nat) (x : Int), x ∈ ordTo xs j ↔ 0 ≤ x ∧ x < j
  | 0, x => by simp [ordTo]; try omega
  | j + 1, x => by
    rw [ordTo_next, (insO_perm _ _ _ _).mem_iff, List.mem_cons, ordTo_mem xs j]
    omega
theorem ordTo_nodup (xs : List Int) : ∀ (j : Nat), (ordTo xs j).Nodup
  | 0 => by simp [ordTo]
  | j + 1 => by
    rw [ordTo_next, (insO_perm _ _ _ _).nodup_iff, List.nodup_cons]
    exact ⟨fun h => by have := (ordTo_mem xs j _).1 h; omega, ordTo_nodup xs j⟩
/-- The people in their order. -/
def ord (xs : List Int) : List Int := ordTo xs xs.length
theorem ord_len (xs : List Int) : (ord xs).length = xs.length := ordTo_len _ _
theorem ord_sorted (xs : List Int) : ((ord xs).map (tm xs)).Pairwise (· ≤ ·) := by
  rw [ord, ordTo_map xs (Nat.le_refl _)]
  exact (insTo_sortedQ xs (Nat.le_refl _)).1
theorem ord_mem {xs : List Int} {x : Int} (h : x ∈ ord xs) : 0 ≤ x ∧ x < xs.length := (ordTo_mem xs _ x).1 h
theorem ord_nodup (xs : List Int) : (ord xs).Nodup := ordTo_nodup xs _

/-! ### The insertion sort of an array of people with their times -/
abbrev Wk := Int × Int
/-- By the times alone. -/
def wlt (x y : Wk) : Bool := decide (x.2 < y.2)
def mk (xs o : List Int) : List Wk := o.map fun i => (i, tm xs i)
theorem mk_len (xs o : List Int) : (mk xs o).length = o.length := by simp [mk]
theorem mk_app (xs a b : List Int) : mk xs (a ++ b) = mk xs a ++ mk xs b := List.map_append
theorem mk_cons (xs a : List Int) (i : Int) : mk xs (i :: a) = (i, tm xs i) :: mk xs a := rfl
theorem get_list {α : Type} [Inhabited α] (d : Array α) (j : Nat) (x : α) (h : d.toList[j]? = some x) : d[j]! = x := by
  rw [Array.getElem?_toList] at h
  simp [getElem!_def, h]
theorem swp_list {d : Array Wk} {P R : List Wk} {x y : Wk} (h : d.toList = P ++ y :: x :: R) : (Go.Sort.swp d (P.length + 1) P.length).toList = P ++ x :: y :: R := by
  have hy : d[P.length]! = y := get_list _ _ _ (by rw [h]; simp)
  have hx : d[P.length + 1]! = x := get_list _ _ _ (by rw [h, List.getElem?_append_right (by omega)]; simp)
  simp only [Go.Sort.swp, Array.toList_setIfInBounds, hx, hy, h]
  rw [List.set_append_right _ _ (by omega), List.set_append_right _ _ (by omega)]
  simp
theorem inner_list (xs o : List Int) (i t : Int) (R : List Wk) : ∀ (j : Nat) (d : Array Wk), j ≤ o.length → d.toList = mk xs (o.take j) ++ (i, t) :: (mk xs (o.drop j) ++ R) →
    (Go.Sort.insInner wlt 0 j d).toList = mk xs (o.take (spotO xs o t j)) ++ (i, t) :: (mk xs (o.drop (spotO xs o t j)) ++ R)
  | 0, d, _, h => by simpa [Go.Sort.insInner, spotO, spot] using h
  | j + 1, d, hj, h => by
    have hjl : j < o.length := by omega
    have h1 : d.toList = mk xs (o.take j) ++ (o[j], tm xs o[j]) :: (i, t) :: (mk xs (o.drop (j + 1)) ++ R) := by
      rw [h, List.take_succ_eq_append_getElem hjl, mk_app, List.append_assoc]
      rfl
    have hl : (mk xs (o.take j)).length = j := by rw [mk_len]; simp; omega
    have hx : d[j + 1]! = (i, t) := get_list _ _ _ (by rw [h1, List.getElem?_append_right (by omega)]; simp [hl, show j + 1 - j = 1 by omega])
    have hy : d[j]! = (o[j], tm xs o[j]) := get_list _ _ _ (by rw [h1, List.getElem?_append_right (by omega)]; simp [hl])
    have hg : o.getD j 0 = o[j] := by simp [hjl]
    rw [Go.Sort.insInner, hx, hy]
    by_cases hlt : t < tm xs o[j]
    · rw [if_pos (by simp [wlt, hlt]), spotO_down hjl (by rw [hg]; exact hlt)]
      refine inner_list xs o i t R j _ (by omega) ?_
      have := swp_list h1
      rw [hl] at this
      rw [this, List.drop_eq_getElem_cons hjl, mk_cons]
      rfl
    · rw [if_neg (by simp [wlt]; omega), spotO_here hjl (by rw [hg]; exact hlt)]
      exact h
theorem outer_list (xs : List Int) (n : Nat) : ∀ (g i : Nat) (d : Array Wk), n - i ≤ g → i ≤ n → d.toList = mk xs (ordTo xs i) ++ mk xs ((List.range' i (n - i)).map Int.ofNat) →
    (Go.Sort.insOuter wlt 0 n i d).toList = mk xs (ordTo xs n)
  | 0, i, d, hg, hi, h => by
    obtain rfl : i = n := by omega
    rw [Go.Sort.insOuter, if_neg (by omega), h]
    simp [mk]
  | g + 1, i, d, hg, hi, h => by
    by_cases hlt : i < n
    · rw [Go.Sort.insOuter, if_pos hlt]
      refine outer_list xs n g (i + 1) _ (by omega) (by omega) ?_
      have hol := ordTo_len xs i
      obtain ⟨m, hm⟩ : ∃ m, n - i = m + 1 := ⟨n - i - 1, by omega⟩
      have hm' : n - (i + 1) = m := by omega
      have := inner_list xs (ordTo xs i) i (tm xs i) (mk xs ((List.range' (i + 1) m).map Int.ofNat)) i d (by omega) (by
        rw [h, hm, List.range'_succ, List.take_of_length_le (by omega), List.drop_eq_nil_of_le (by omega)]
        simp [mk])
      rw [this, hm', ordTo_next, insO, hol]
      simp [mk]
    · obtain rfl : i = n := by omega
      rw [Go.Sort.insOuter, if_neg (by omega), h]
      simp [mk]
/-- The sort puts the people in their order. -/
theorem sort_list (xs : List Int) (d : Array Wk) (h : d.toList = mk xs ((List.range xs.length).map Int.ofNat)) : (Go.Sort.insertionSort wlt d 0 xs.length).toList = mk xs (ord xs) := by
  rw [Go.Sort.insertionSort]
  cases hn : xs.length with
  | zero =>
    obtain rfl : xs = [] := List.length_eq_zero_iff.1 hn
    rw [Go.Sort.insOuter, if_neg (by simp), h]
    rfl
  | succ n =>
    have := outer_list xs (n + 1) n 1 d (by omega) (by omega) (by
      rw [h, hn, List.range_eq_range', List.range'_succ]
      simp [mk, ordTo, insO, spotO, spot])
    rw [show (0 : Nat) + 1 = 1 from rfl, this, ord, hn]

/-! ### The trips of two at once -/
/-- A trip: the fast one and the slow one. -/
abbrev Pt := Wk × Wk
def wk (W : List Wk) (k : Nat) : Wk := W.getD k (0, 0)
def gainOf (W : List Wk) (k : Nat) : Int := (wk W 0).2 + (wk W k).2 - 2 * (wk W 1).2
def round (f : Bool) (W : List Wk) (k : Nat) : List Pt :=
  if f && decide (0 < gainOf W k) then [(wk W 0, wk W 1), (wk W 0, wk W 0), (wk W k, wk W (k + 1)), (wk W 1, wk W 1)]
  else [(wk W 0, wk W (k + 1)), (wk W 0, wk W 0), (wk W 0, wk W k), (wk W 0, wk W 0)]
def lastT (W : List Wk) : Nat → List Pt
  | 1 => [(wk W 0, wk W 0)]
  | 2 => [(wk W 0, wk W 1)]
  | 3 => [(wk W 0, wk W 1), (wk W 0, wk W 0), (wk W 0, wk W 2)]
  | _ => []
/-- All trips while so many are not over. -/
def tripsT (f : Bool) (W : List Wk) : Nat → List Pt
  | 0 => []
  | 1 => lastT W 1
  | 2 => lastT W 2
  | 3 => lastT W 3
  | k + 4 => round f W (k + 2) ++ tripsT f W (k + 2)
/-- What is gained in the rounds. -/
def gainsT (W : List Wk) : Nat → List Int
  | 0 => []
  | 1 => []
  | 2 => []
  | 3 => []
  | k + 4 => gainOf W (k + 2) :: gainsT W (k + 2)
def isAlone (t : Pt) : Bool := t.1 == t.2
def listT (t : Pt) : List Int := if isAlone t then [t.1.1] else [min t.1.1 t.2.1, max t.1.1 t.2.1]
def timeT (ts : List Pt) : Int := (ts.map fun t => t.2.2).sum

/-- People with their times, in an order. -/
structure GoodW (xs : List Int) (W : List Wk) : Prop where
  own : ∀ k, k < W.length → (wk W k).2 = tm xs (wk W k).1 ∧ 0 ≤ (wk W k).1 ∧ (wk W k).1 < xs.length
  two : ∀ j k, j < k → k < W.length → (wk W j).2 ≤ (wk W k).2 ∧ (wk W j).1 ≠ (wk W k).1
theorem wk_mk {xs o : List Int} {k : Nat} (h : k < o.length) : wk (mk xs o) k = (o[k], tm xs o[k]) := by simp [wk, mk, h]
theorem good_ord (xs : List Int) : GoodW xs (mk xs (ord xs)) := by
  refine ⟨fun k hk => ?_, fun j k hjk hk => ?_⟩
  · rw [mk_len] at hk
    rw [wk_mk hk]
    exact ⟨rfl, ord_mem (List.getElem_mem hk)⟩
  · rw [mk_len] at hk
    rw [wk_mk hk, wk_mk (by omega)]
    constructor
    · have := List.pairwise_iff_getElem.1 (ord_sorted xs) j k (by simp; omega) (by simp; omega) hjk
      simpa using this
    · exact List.pairwise_iff_getElem.1 (ord_nodup xs) j k (by omega) hk hjk
/-- A trip of one or of two people, the slow one behind. -/
def OkT (xs : List Int) (t : Pt) : Prop :=
  (t.1.2 = tm xs t.1.1 ∧ 0 ≤ t.1.1 ∧ t.1.1 < xs.length) ∧ (t.2.2 = tm xs t.2.1 ∧ 0 ≤ t.2.1 ∧ t.2.1 < xs.length) ∧ (t.1 = t.2 ∨ (t.1.1 ≠ t.2.1 ∧ t.1.2 ≤ t.2.2))
theorem GoodW.one {xs : List Int} {W : List Wk} (h : GoodW xs W) {k : Nat} (hk : k < W.length) : OkT xs (wk W k, wk W k) := ⟨h.own k hk, h.own k hk, .inl rfl⟩
theorem GoodW.pair {xs : List Int} {W : List Wk} (h : GoodW xs W) {j k : Nat} (hj : j < k) (hk : k < W.length) : OkT xs (wk W j, wk W k) :=
  ⟨h.own j (by omega), h.own k hk, .inr ⟨(h.two j k hj hk).2, (h.two j k hj hk).1⟩⟩
theorem round_ok {xs : List Int} {W : List Wk} (h : GoodW xs W) (f : Bool) {k : Nat} (h2 : 2 ≤ k) (hk : k + 1 < W.length) : ∀ t ∈ round f W k, OkT xs t := by
  intro t ht
  unfold round at ht
  split at ht <;> simp only [List.mem_cons, List.not_mem_nil, or_false] at ht <;> rcases ht with rfl | rfl | rfl | rfl
  · exact h.pair (by omega) (by omega)
  · exact h.one (by omega)
  · exact h.pair (by omega) (by omega)
  · exact h.one (by omega)
  · exact h.pair (by omega) (by omega)
  · exact h.one (by omega)
  · exact h.pair (by omega) (by omega)
  · exact h.one (by omega)
theorem trips_ok {xs : List Int} {W : List Wk} (h : GoodW xs W) (f : Bool) : ∀ n, n ≤ W.length → ∀ t ∈ tripsT f W n, OkT xs t
  | 0, _ => fun t ht => by simp [tripsT] at ht
  | 1, hn => fun t ht => by simp only [tripsT, lastT, List.mem_cons, List.not_mem_nil, or_false] at ht; subst ht; exact h.one (by omega)
  | 2, hn => fun t ht => by simp only [tripsT, lastT, List.mem_cons, List.not_mem_nil, or_false] at ht; subst ht; exact h.pair (by omega) (by omega)
  | 3, hn => fun t ht => by
    simp only [tripsT, lastT, List.mem_cons, List.not_mem_nil, or_false] at ht
    rcases ht with rfl | rfl | rfl
    · exact h.pair (by omega) (by omega)
    · exact h.one (by omega)
    · exact h.pair (by omega) (by omega)
  | k + 4, hn => fun t ht => by
    rw [tripsT] at ht
    rcases List.mem_append.1 ht with ht | ht
    · exact round_ok h f (by omega) (by omega) t ht
    · exact trips_ok h f (k + 2) (by omega) t ht
theorem round_len (f : Bool) (W : List Wk) (k : Nat) : (round f W k).length = 4 := by unfold round; split <;> rfl
theorem trips_len (f : Bool) (W : List Wk) : ∀ n, (tripsT f W n).length ≤ 2 * n
  | 0 => by simp [tripsT]
  | 1 => by simp [tripsT, lastT]
  | 2 => by simp [tripsT, lastT]
  | 3 => by simp [tripsT, lastT]
  | k + 4 => by
    have := trips_len f W (k + 2)
    rw [tripsT, List.length_append, round_len]
    omega
/-- Every second trip is of one person. -/
theorem trips_alone (f : Bool) (W : List Wk) : ∀ n i (t : Pt), (tripsT f W n)[2 * i + 1]? = some t → isAlone t = true
  | 0, i, t, h => by simp [tripsT] at h
  | 1, i, t, h => by simp [tripsT, lastT] at h
  | 2, i, t, h => by simp [tripsT, lastT] at h
  | 3, i, t, h => by
    match i, h with
    | 0, h => simp [tripsT, lastT] at h; subst h; simp [isAlone]
    | i + 1, h => simp [tripsT, lastT, show 2 * (i + 1) + 1 = 2 * i + 3 by omega] at h
  | k + 4, i, t, h => by
    rw [tripsT] at h
    match i, h with
    | 0, h =>
      rw [List.getElem?_append_left (by rw [round_len]; omega)] at h
      unfold round at h
      split at h <;> · simp at h; subst h; simp [isAlone]
    | 1, h =>
      rw [List.getElem?_append_left (by rw [round_len]; omega)] at h
      unfold round at h
      split at h <;> · simp at h; subst h; simp [isAlone]
    | i + 2, h =>
      rw [List.getElem?_append_right (by rw [round_len]; omega), round_len, show 2 * (i + 2) + 1 - 4 = 2 * i + 1 by omega] at h
      exact trips_alone f W (k + 2) i t h
theorem OkT.steps {xs : List Int} {t : Pt} (h : OkT xs t) : StepsTo (listT t) (xs.length - 1) (listT t).length := by
  obtain ⟨⟨-, a1, a2⟩, ⟨-, b1, b2⟩, h3⟩ := h
  cases hc : isAlone t
  · have hne : t.1.1 ≠ t.2.1 := by
      rcases h3 with h3 | h3
      · rw [isAlone, h3] at hc
        simp at hc
      · exact h3.1
    rw [show listT t = [min t.1.1 t.2.1, max t.1.1 t.2.1] by simp [listT, hc]]
    intro j hj
    match j, hj with
    | 0, _ => simp [Step]; omega
    | 1, _ => simp [Step]; omega
    | j + 2, hj => exact absurd hj (by simp)
  · rw [show listT t = [t.1.1] by simp [listT, hc]]
    intro j hj
    match j, hj with
    | 0, _ => simp [Step]; omega
    | j + 1, hj => simp at hj
end Go.Proofs.Ytcoagbcleccmmaa

namespace Go.Proofs.Ytcoagbcleccmmaa
open Go.RowKit

set_option maxHeartbeats 3200000 in
set_option maxRecDepth 100000 in
theorem prOrder_any (A : Option Addr) (n c : Nat) (xs : List Int) (w : World) (hA : Holds w A (nums xs)) (hx : xs.length = n) (hn : n ≤ 1048575) :
    Calls Try.prog 99 #[.slice A n c] w (OwnPost (ordTo xs n) w) := by
  obtain ⟨i0, hi, hz0, hz1, hz2⟩ := info_parts info_int
  have HI := Lib.hid hi
  have HZ0 := Lib.hid hz0
  have HZ1 := Lib.hid hz1
  have HZ2 := Lib.hid hz2
  have HX := Lib.hid hx
  clear hi hz0 hz1 hz2 hx
  go_enter Try.func99, Try.ntmps99
  go_wp2
  go_loopw [3, 10] (fun v i wr => ∃ (j : Nat) (E : Option Addr) (d : Nat), j ≤ n ∧ i = .int .i64 j ∧ v = .slice E j d ∧ wr.ownsRow w.heap.size 3 1 (.slice E j d) j (nums (ordTo xs j)) ∧ Below w.heap.size w wr ∧ (j = 0 → E = none)) (fun _ i _ => n - (intOf i).toNat)
  case atStart => exact ⟨0, none, 0, Nat.zero_le _, rfl, rfl, World.ownsRow_nil _ _ _ _, Below.refl _ _, fun _ => rfl⟩
  case round =>
    obtain ⟨wo, rfl⟩ : ∃ wo : World, wo = wr := ⟨_, rfl⟩
    obtain ⟨j, E, d, hj, rfl, rfl, hown, hb, hnone⟩ := hrel
    by_cases hlt : j < n
    · have hjx : j < xs.length := by have := HX.out; omega
      obtain ⟨b1, o1, rfl, hbl1, hc⟩ := (hA.below hb).look (k := j) (by rw [nums_len]; exact hjx)
      simp only [nums, List.getElem_map] at hc
      rw [← tm_at hjx] at hc
      have HNX := Lib.hid (ordTo_next xs j)
      have HLN := Lib.hid (ordTo_len xs j)
      have HOWN := Lib.hid hown
      have HB := Lib.hid hb
      have hbs := hb.size
      have hpos : E ≠ none → 0 < j := fun he => Nat.pos_of_ne_zero fun h => he (hnone h)
      clear hnone
      rcases own_some hown with ⟨rfl, rfl, rfl⟩ | ⟨g, rfl, hjd⟩
      · -- the first number
        clear hpos
        simp only [Nat.add_zero] at hc
        clear hown hb
        go_wp2
        refine wp_loop_rounds 1 ?_
        rw [rounds_succ]
        go_wp2_with fail
        refine (l1Own_any none 0 0 [] _ (Holds.empty _ _) rfl (by omega) (fun _ => rfl)).mono ?_
        rintro e w1 ⟨E1, c1, rfl, hown1, hb1⟩
        have HO1 := Lib.hid (hown1.alloc (.cells #[.int .i64 0] 3))
        have HNEW := Lib.hid (cells_fresh w1 3 #[.int .i64 0])
        have HONE : Hid (∀ u ∈ [Value.int .i64 0], u.oneCell' = true) := fun u hu => by simp at hu; subst hu; rfl
        have HBB := Lib.hid ((below_then HB.out hb1 HB.out.size).alloc (Nat.le_trans HB.out.size hb1.size) (.cells #[.int .i64 0] 3))
        have hs1 := hb1.size
        clear hown1 hb1
        go_wp2_with (first | (at_builtin; refine wpList_append_own _ rfl (.tmp 36) (.tmp 38) 39 rfl wo.heap.size 3 i0 (.int .i64 0) 1 8 Try.underlying39 HI.out HZ0.out HZ1.out HZ2.out rfl (by decide) _ 0 [] rfl HO1.out ⟨w1.heap.size, 0, none⟩ 1 1 [.int .i64 0] rfl rfl HNEW.out HONE.out (by unfold maxLen; omega) (by omega) (by simp; omega) ?_; intro v2 w2 hown2 hg2 _; obtain ⟨g2, c2, hv2⟩ := own_slice hown2; subst hv2; simp only [Nat.zero_add, List.nil_append] at hown2) | (at_builtin; refine wpList_append_own_none rfl (.tmp 40) (.tmp 43) 39 rfl wo.heap.size 3 i0 1 Try.underlying39 HI.out _ 1 [.int .i64 0] rfl hown2 rfl ?_))
        have HO2 := Lib.hid (own_lower hown2 hbs)
        have HE := Lib.hid (HBB.out.grown hg2 (by simp; omega) (fun k hk => Nat.le_trans hbs (HO1.out.lt k hk).1))
        clear hown2 hg2
        go_roundw
        case rel => exact ⟨1, some ⟨g2, 0, none⟩, c2, by omega, by go_num, rfl, by rw [HNX.out]; exact HO2.out, HE.out, fun h => by omega⟩
        case measure => simp [intOf]; omega
      · have hj0 : 0 < j := hpos (by simp)
        clear hpos
        obtain ⟨hgl, hgb, hcells⟩ := own_cells hown
        have HCE := Lib.hid hcells
        clear hown hb hcells
        go_wp2
        go_loop [6] (fun k => ∃ kk : Nat, kk ≤ j ∧ k = .int .i64 kk ∧ spotO xs (ordTo xs j) (tm xs j) j = spotO xs (ordTo xs j) (tm xs j) kk) (fun k => (intOf k).toNat)
        case atStart => exact ⟨j, Nat.le_refl _, rfl, rfl⟩
        case round =>
          obtain ⟨p, hpj, rfl, hsp⟩ := hrel
          cases p with
          | zero =>
            rw [show spotO xs (ordTo xs j) (tm xs j) 0 = 0 from rfl] at hsp
            have hdne : ¬ d = 0 := by omega
            have HSP := Lib.hid hsp
            have hpd : 0 ≤ d := by omega
            have hp0 : (0 : Int) ≤ ((0 : Nat) : Int) := by omega
            have hpdi : ((0 : Nat) : Int) ≤ ((d : Nat) : Int) := by omega
            have hpji : ((0 : Nat) : Int) ≤ ((j : Nat) : Int) := by omega
            have HTK : Hid (((ordTo xs j).take 0).length = 0) := by show _ = _; have := HLN.out; simp only [List.length_take]; omega
            have HDR : Hid (((ordTo xs j).drop 0).length = j) := by show _ = _; have := HLN.out; simp only [List.length_drop]; omega
            have HDL : Hid ((nums ((ordTo xs j).drop 0)).length = j * 1) := by show _ = _; rw [nums_len, HDR.out, Nat.mul_one]
            have HDO := Lib.hid (ints_one ((ordTo xs j).drop 0))
            have hAl : Holds wo (some ⟨g, 0, none⟩) (nums ((ordTo xs j).take 0)) := by
              refine .inr ⟨g, 0, rfl, hgl, fun i u hu => ?_⟩
              rw [Nat.zero_add]
              refine HCE.out i u ?_
              have hi : i < 0 := by have := (List.getElem?_eq_some_iff.1 hu).1; rw [nums_len, HTK.out] at this; exact this
              first | (exfalso; omega) | (rw [← hu]; simp only [nums, List.map_take, List.getElem?_take, if_pos hi])
            clear hsp
            go_wp2_with fail
            refine (l1Own_any (some ⟨g, 0, none⟩) _ _ ((ordTo xs j).take 0) _ hAl HTK.out (by omega) (fun h => by cases h)).mono ?_
            rintro e w1 ⟨E1, c1, rfl, hown1, hb1⟩
            rw [HTK.out] at hown1 ⊢
            have HO1 := Lib.hid (hown1.alloc (.cells #[.int .i64 j] 3))
            have HNEW := Lib.hid (cells_fresh w1 3 #[.int .i64 j])
            have HONE : Hid (∀ u ∈ [Value.int .i64 j], u.oneCell' = true) := fun u hu => by simp at hu; subst hu; rfl
            have HBB := Lib.hid ((below_then HB.out hb1 HB.out.size).alloc (Nat.le_trans HB.out.size hb1.size) (.cells #[.int .i64 j] 3))
            have HC1 : Hid (∀ i u, (nums (ordTo xs j))[i]? = some u → (w1.alloc (.cells #[.int .i64 j] 3)).cell? ⟨g, i, none⟩ = some u) := fun i u hu => ((World.cell?_alloc_lt w1 _ ⟨g, i, none⟩ (Nat.lt_of_lt_of_le hgl hb1.size)).trans (hb1.cell (p := ⟨g, i, none⟩) hgl)).trans (HCE.out i u hu)
            have hs1 := hb1.size
            clear hown1 hb1
            go_wp2_with (first | (at_builtin; refine wpList_append_own _ rfl (.tmp 36) (.tmp 38) 39 rfl wo.heap.size 3 i0 (.int .i64 0) 1 8 Try.underlying39 HI.out HZ0.out HZ1.out HZ2.out rfl (by decide) _ 0 (nums ((ordTo xs j).take 0)) rfl HO1.out ⟨w1.heap.size, 0, none⟩ 1 1 [.int .i64 j] rfl rfl HNEW.out HONE.out (by unfold maxLen; omega) (by omega) (by simp; omega) ?_; intro v2 w2 hown2 hg2 _; obtain ⟨g2, c2, hv2⟩ := own_slice hown2; subst hv2; have HN2 : Hid (∀ i u, (nums ((ordTo xs j).drop 0))[i]? = some u → w2.cell? ((⟨g, 0, none⟩ : Addr).add i) = some u) := (fun i u hu => by rw [show (⟨g, 0, none⟩ : Addr).add i = ⟨g, 0 + i, none⟩ from by unfold Addr.add; split <;> simp_all]; exact (cell_grown hg2 (by simp; omega) (fun hh => by have := (HO1.out.lt g hh).1; omega)).trans (HC1.out _ u (by rw [← hu]; simp [nums])))) | (at_builtin; refine wpList_append_own _ rfl (.tmp 40) (.tmp 43) 39 rfl wo.heap.size 3 i0 (.int .i64 0) 1 8 Try.underlying39 HI.out HZ0.out HZ1.out HZ2.out rfl (by decide) (.slice (some ⟨g2, 0, none⟩) (0 + 1) c2) _ _ rfl hown2 ⟨g, 0, none⟩ j d (nums ((ordTo xs j).drop 0)) rfl HDL.out HN2.out HDO.out (by unfold maxLen; omega) (by omega) (by have := hg2.size; simp at this; omega) ?_; intro v3 w3 hown3 hg3 _))
            rw [show 0 + 1 + j = j + 1 by omega] at hown3
            obtain ⟨A3, c3, rfl⟩ := own_shape hown3
            have HO3 := Lib.hid (own_lower hown3 hbs)
            have HE := Lib.hid ((HBB.out.grown hg2 (by simp; omega) (fun k hk => Nat.le_trans hbs (HO1.out.lt k hk).1)).grown hg3 (by have := hg2.size; simp at this; omega) (fun k hk => Nat.le_trans hbs (hown2.lt k hk).1))
            have HL3 : Hid ((nums ((ordTo xs j).take 0) ++ [.int .i64 j]) ++ nums ((ordTo xs j).drop 0) = nums (ordTo xs (j + 1))) := by
              show _ = _
              rw [HNX.out, insO, HLN.out, HSP.out]
              simp [nums]
            clear hown2 hown3 hg2 hg3
            go_roundw
            case rel => exact ⟨j + 1, A3, c3, by omega, by go_num, rfl, by rw [← HL3.out]; exact HO3.out, HE.out, fun h => by omega⟩
            case measure => first | (simp [intOf]; done) | (simp [intOf]; omega)
          | succ p =>
            have hpl : p < (ordTo xs j).length := by have := HLN.out; omega
            have hcp := HCE.out p (.int .i64 ((ordTo xs j).getD p 0)) (by simp [nums, hpl])
            have hy0 := (ordTo_mem xs j ((ordTo xs j).getD p 0)).1 (by simp [hpl])
            obtain ⟨y, hy⟩ : ∃ y : Nat, (y : Int) = (ordTo xs j).getD p 0 := ⟨((ordTo xs j).getD p 0).toNat, by omega⟩
            have hyn : y < n := by omega
            have hyx : y < xs.length := by have := HX.out; omega
            obtain ⟨b2, o2, hab, -, hct⟩ := (hA.below HB.out).look (k := y) (by rw [nums_len]; exact hyx)
            obtain ⟨rfl, rfl⟩ : b1 = b2 ∧ o1 = o2 := by simpa using hab
            simp only [nums, List.getElem_map] at hct
            rw [← tm_at hyx] at hct
            rw [← hy] at hcp
            clear hab hy0 hyx
            by_cases hx : tm xs j < tm xs y
            · rw [spotO_down hpl (by rw [← hy]; exact hx)] at hsp
              clear hy
              have HSP := Lib.hid hsp
              clear hsp
              go_wp2
              go_round
              case rel => exact ⟨p, by omega, by go_num, HSP.out⟩
              case measure => first | (simp [intOf]; done) | (simp [intOf]; omega)
            · rw [spotO_here hpl (by rw [← hy]; exact hx)] at hsp
              clear hy
              by_cases hdp : d = p + 1
              · obtain rfl : j = p + 1 := by omega
                subst hdp
                have HSP := Lib.hid hsp
                have hpd : (p + 1) ≤ (p + 1) := by omega
                have hp0 : (0 : Int) ≤ (((p + 1) : Nat) : Int) := by omega
                have hpdi : (((p + 1) : Nat) : Int) ≤ (((p + 1) : Nat) : Int) := by omega
                have hpji : (((p + 1) : Nat) : Int) ≤ (((p + 1) : Nat) : Int) := by omega
                have HTK : Hid (((ordTo xs (p + 1)).take (p + 1)).length = (p + 1)) := by show _ = _; have := HLN.out; simp only [List.length_take]; omega
                have HDR : Hid (((ordTo xs (p + 1)).drop (p + 1)).length = 0) := by show _ = _; have := HLN.out; simp only [List.length_drop]; omega
                have HDL : Hid ((nums ((ordTo xs (p + 1)).drop (p + 1))).length = 0 * 1) := by show _ = _; rw [nums_len, HDR.out, Nat.mul_one]
                have HDO := Lib.hid (ints_one ((ordTo xs (p + 1)).drop (p + 1)))
                have hAl : Holds wo (some ⟨g, 0, none⟩) (nums ((ordTo xs (p + 1)).take (p + 1))) := by
                  refine .inr ⟨g, 0, rfl, hgl, fun i u hu => ?_⟩
                  rw [Nat.zero_add]
                  refine HCE.out i u ?_
                  have hi : i < (p + 1) := by have := (List.getElem?_eq_some_iff.1 hu).1; rw [nums_len, HTK.out] at this; exact this
                  first | (exfalso; omega) | (rw [← hu]; simp only [nums, List.map_take, List.getElem?_take, if_pos hi])
                clear hsp
                go_wp2_with fail
                refine (l1Own_any (some ⟨g, 0, none⟩) _ _ ((ordTo xs (p + 1)).take (p + 1)) _ hAl HTK.out (by omega) (fun h => by cases h)).mono ?_
                rintro e w1 ⟨E1, c1, rfl, hown1, hb1⟩
                rw [HTK.out] at hown1 ⊢
                have HO1 := Lib.hid (hown1.alloc (.cells #[.int .i64 ((p + 1 : Nat) : Int)] 3))
                have HNEW := Lib.hid (cells_fresh w1 3 #[.int .i64 ((p + 1 : Nat) : Int)])
                have HONE : Hid (∀ u ∈ [Value.int .i64 ((p + 1 : Nat) : Int)], u.oneCell' = true) := fun u hu => by simp at hu; subst hu; rfl
                have HBB := Lib.hid ((below_then HB.out hb1 HB.out.size).alloc (Nat.le_trans HB.out.size hb1.size) (.cells #[.int .i64 ((p + 1 : Nat) : Int)] 3))
                have HC1 : Hid (∀ i u, (nums (ordTo xs (p + 1)))[i]? = some u → (w1.alloc (.cells #[.int .i64 ((p + 1 : Nat) : Int)] 3)).cell? ⟨g, i, none⟩ = some u) := fun i u hu => ((World.cell?_alloc_lt w1 _ ⟨g, i, none⟩ (Nat.lt_of_lt_of_le hgl hb1.size)).trans (hb1.cell (p := ⟨g, i, none⟩) hgl)).trans (HCE.out i u hu)
                have hs1 := hb1.size
                clear hown1 hb1
                go_wp2_with (first | (at_builtin; refine wpList_append_own _ rfl (.tmp 36) (.tmp 38) 39 rfl wo.heap.size 3 i0 (.int .i64 0) 1 8 Try.underlying39 HI.out HZ0.out HZ1.out HZ2.out rfl (by decide) _ (p + 1) (nums ((ordTo xs (p + 1)).take (p + 1))) rfl HO1.out ⟨w1.heap.size, 0, none⟩ 1 1 [.int .i64 ((p + 1 : Nat) : Int)] rfl rfl HNEW.out HONE.out (by unfold maxLen; omega) (by omega) (by simp; omega) ?_; intro v2 w2 hown2 hg2 _; obtain ⟨g2, c2, hv2⟩ := own_slice hown2; subst hv2; have HN2 : Hid (∀ i u, (nums ((ordTo xs (p + 1)).drop (p + 1)))[i]? = some u → w2.cell? ((⟨g, 0, none⟩ : Addr).add i) = some u) := (fun i u hu => by rw [show (⟨g, 0, none⟩ : Addr).add i = ⟨g, 0 + i, none⟩ from by unfold Addr.add; split <;> simp_all]; exfalso; have h1 := (List.getElem?_eq_some_iff.1 hu).1; rw [nums_len, HDR.out] at h1; omega)) | (at_builtin; refine wpList_append_own _ rfl (.tmp 40) (.tmp 43) 39 rfl wo.heap.size 3 i0 (.int .i64 0) 1 8 Try.underlying39 HI.out HZ0.out HZ1.out HZ2.out rfl (by decide) (.slice (some ⟨g2, 0, none⟩) ((p + 1) + 1) c2) _ _ rfl hown2 ⟨g, 0, none⟩ 0 0 (nums ((ordTo xs (p + 1)).drop (p + 1))) rfl HDL.out HN2.out HDO.out (by unfold maxLen; omega) (by omega) (by have := hg2.size; simp at this; omega) ?_; intro v3 w3 hown3 hg3 _))
                rw [show (p + 1) + 1 + 0 = (p + 1) + 1 by omega] at hown3
                obtain ⟨A3, c3, rfl⟩ := own_shape hown3
                have HO3 := Lib.hid (own_lower hown3 hbs)
                have HE := Lib.hid ((HBB.out.grown hg2 (by simp; omega) (fun k hk => Nat.le_trans hbs (HO1.out.lt k hk).1)).grown hg3 (by have := hg2.size; simp at this; omega) (fun k hk => Nat.le_trans hbs (hown2.lt k hk).1))
                have HL3 : Hid ((nums ((ordTo xs (p + 1)).take (p + 1)) ++ [.int .i64 ((p + 1 : Nat) : Int)]) ++ nums ((ordTo xs (p + 1)).drop (p + 1)) = nums (ordTo xs ((p + 1) + 1))) := by
                  show _ = _
                  rw [HNX.out, insO, HLN.out, HSP.out]
                  simp [nums]
                clear hown2 hown3 hg2 hg3
                go_roundw
                case rel => exact ⟨(p + 1) + 1, A3, c3, by omega, by go_num, rfl, by rw [← HL3.out]; exact HO3.out, HE.out, fun h => by omega⟩
                case measure => first | (simp [intOf]; done) | (simp [intOf]; omega)
              · have HSP := Lib.hid hsp
                have hpd : (p + 1) ≤ d := by omega
                have hp0 : (0 : Int) ≤ (((p + 1) : Nat) : Int) := by omega
                have hpdi : (((p + 1) : Nat) : Int) ≤ ((d : Nat) : Int) := by omega
                have hpji : (((p + 1) : Nat) : Int) ≤ ((j : Nat) : Int) := by omega
                have HTK : Hid (((ordTo xs j).take (p + 1)).length = (p + 1)) := by show _ = _; have := HLN.out; simp only [List.length_take]; omega
                have HDR : Hid (((ordTo xs j).drop (p + 1)).length = (j - (p + 1))) := by show _ = _; have := HLN.out; simp only [List.length_drop]; omega
                have HDL : Hid ((nums ((ordTo xs j).drop (p + 1))).length = (j - (p + 1)) * 1) := by show _ = _; rw [nums_len, HDR.out, Nat.mul_one]
                have HDO := Lib.hid (ints_one ((ordTo xs j).drop (p + 1)))
                have hAl : Holds wo (some ⟨g, 0, none⟩) (nums ((ordTo xs j).take (p + 1))) := by
                  refine .inr ⟨g, 0, rfl, hgl, fun i u hu => ?_⟩
                  rw [Nat.zero_add]
                  refine HCE.out i u ?_
                  have hi : i < (p + 1) := by have := (List.getElem?_eq_some_iff.1 hu).1; rw [nums_len, HTK.out] at this; exact this
                  first | (exfalso; omega) | (rw [← hu]; simp only [nums, List.map_take, List.getElem?_take, if_pos hi])
                clear hsp
                go_wp2_with fail
                refine (l1Own_any (some ⟨g, 0, none⟩) _ _ ((ordTo xs j).take (p + 1)) _ hAl HTK.out (by omega) (fun h => by cases h)).mono ?_
                rintro e w1 ⟨E1, c1, rfl, hown1, hb1⟩
                rw [HTK.out] at hown1 ⊢
                have HO1 := Lib.hid (hown1.alloc (.cells #[.int .i64 j] 3))
                have HNEW := Lib.hid (cells_fresh w1 3 #[.int .i64 j])
                have HONE : Hid (∀ u ∈ [Value.int .i64 j], u.oneCell' = true) := fun u hu => by simp at hu; subst hu; rfl
                have HBB := Lib.hid ((below_then HB.out hb1 HB.out.size).alloc (Nat.le_trans HB.out.size hb1.size) (.cells #[.int .i64 j] 3))
                have HC1 : Hid (∀ i u, (nums (ordTo xs j))[i]? = some u → (w1.alloc (.cells #[.int .i64 j] 3)).cell? ⟨g, i, none⟩ = some u) := fun i u hu => ((World.cell?_alloc_lt w1 _ ⟨g, i, none⟩ (Nat.lt_of_lt_of_le hgl hb1.size)).trans (hb1.cell (p := ⟨g, i, none⟩) hgl)).trans (HCE.out i u hu)
                have hs1 := hb1.size
                clear hown1 hb1
                go_wp2_with (first | (at_builtin; refine wpList_append_own _ rfl (.tmp 36) (.tmp 38) 39 rfl wo.heap.size 3 i0 (.int .i64 0) 1 8 Try.underlying39 HI.out HZ0.out HZ1.out HZ2.out rfl (by decide) _ (p + 1) (nums ((ordTo xs j).take (p + 1))) rfl HO1.out ⟨w1.heap.size, 0, none⟩ 1 1 [.int .i64 j] rfl rfl HNEW.out HONE.out (by unfold maxLen; omega) (by omega) (by simp; omega) ?_; intro v2 w2 hown2 hg2 _; obtain ⟨g2, c2, hv2⟩ := own_slice hown2; subst hv2; have HN2 : Hid (∀ i u, (nums ((ordTo xs j).drop (p + 1)))[i]? = some u → w2.cell? ((⟨g, (p + 1), none⟩ : Addr).add i) = some u) := (fun i u hu => by rw [show (⟨g, (p + 1), none⟩ : Addr).add i = ⟨g, (p + 1) + i, none⟩ from by unfold Addr.add; split <;> simp_all]; exact (cell_grown hg2 (by simp; omega) (fun hh => by have := (HO1.out.lt g hh).1; omega)).trans (HC1.out _ u (by rw [← hu]; simp [nums])))) | (at_builtin; refine wpList_append_own _ rfl (.tmp 40) (.tmp 43) 39 rfl wo.heap.size 3 i0 (.int .i64 0) 1 8 Try.underlying39 HI.out HZ0.out HZ1.out HZ2.out rfl (by decide) (.slice (some ⟨g2, 0, none⟩) ((p + 1) + 1) c2) _ _ rfl hown2 ⟨g, (p + 1), none⟩ (j - (p + 1)) (d - (p + 1)) (nums ((ordTo xs j).drop (p + 1))) rfl HDL.out HN2.out HDO.out (by unfold maxLen; omega) (by omega) (by have := hg2.size; simp at this; omega) ?_; intro v3 w3 hown3 hg3 _))
                rw [show (p + 1) + 1 + (j - (p + 1)) = j + 1 by omega] at hown3
                obtain ⟨A3, c3, rfl⟩ := own_shape hown3
                have HO3 := Lib.hid (own_lower hown3 hbs)
                have HE := Lib.hid ((HBB.out.grown hg2 (by simp; omega) (fun k hk => Nat.le_trans hbs (HO1.out.lt k hk).1)).grown hg3 (by have := hg2.size; simp at this; omega) (fun k hk => Nat.le_trans hbs (hown2.lt k hk).1))
                have HL3 : Hid ((nums ((ordTo xs j).take (p + 1)) ++ [.int .i64 j]) ++ nums ((ordTo xs j).drop (p + 1)) = nums (ordTo xs (j + 1))) := by
                  show _ = _
                  rw [HNX.out, insO, HLN.out, HSP.out]
                  simp [nums]
                clear hown2 hown3 hg2 hg3
                go_roundw
                case rel => exact ⟨j + 1, A3, c3, by omega, by go_num, rfl, by rw [← HL3.out]; exact HO3.out, HE.out, fun h => by omega⟩
                case measure => first | (simp [intOf]; done) | (simp [intOf]; omega)
    · have hjn : j = n := by omega
      subst hjn
      go_wp2
      go_ret
      have hl := ordTo_len xs j
      exact ⟨E, d, by rw [hl]; rfl, by rw [hl]; exact hown, hb⟩
end Go.Proofs.Ytcoagbcleccmmaa

namespace Go.Proofs.Ytcoagbcleccmmaa
open Go.RowKit

/-- A squad's cells. -/
def squadCells (W : List Wk) (n : Int) : Array Value := #[.int .i64 (wk W 0).1, .int .i64 (wk W 0).2, .int .i64 (wk W 1).1, .int .i64 (wk W 1).2, .int .i64 (wk W 2).1, .int .i64 (wk W 2).2, .int .i64 (wk W 3).1, .int .i64 (wk W 3).2, .int .i64 (wk W 4).1, .int .i64 (wk W 4).2, .int .i64 (wk W 5).1, .int .i64 (wk W 5).2, .int .i64 (wk W 6).1, .int .i64 (wk W 6).2, .int .i64 (wk W 7).1, .int .i64 (wk W 7).2, .int .i64 (wk W 8).1, .int .i64 (wk W 8).2, .int .i64 (wk W 9).1, .int .i64 (wk W 9).2, .int .i64 (wk W 10).1, .int .i64 (wk W 10).2, .int .i64 (wk W 11).1, .int .i64 (wk W 11).2, .int .i64 n]
theorem squad_size (W : List Wk) (n : Int) : (squadCells W n).size = 25 := rfl
theorem squad_one (W : List Wk) (n : Int) : (squadCells W n).all (·.oneCell') = true := by simp [squadCells, Value.oneCell']
theorem squad_who (W : List Wk) (n : Int) {k : Nat} (h : k < 12) : (squadCells W n)[2 * k]? = some (.int .i64 (wk W k).1) :=
  match k, h with
  | 0, _ => rfl
  | 1, _ => rfl
  | 2, _ => rfl
  | 3, _ => rfl
  | 4, _ => rfl
  | 5, _ => rfl
  | 6, _ => rfl
  | 7, _ => rfl
  | 8, _ => rfl
  | 9, _ => rfl
  | 10, _ => rfl
  | 11, _ => rfl
theorem squad_time (W : List Wk) (n : Int) {k : Nat} (h : k < 12) : (squadCells W n)[2 * k + 1]? = some (.int .i64 (wk W k).2) :=
  match k, h with
  | 0, _ => rfl
  | 1, _ => rfl
  | 2, _ => rfl
  | 3, _ => rfl
  | 4, _ => rfl
  | 5, _ => rfl
  | 6, _ => rfl
  | 7, _ => rfl
  | 8, _ => rfl
  | 9, _ => rfl
  | 10, _ => rfl
  | 11, _ => rfl
theorem squad_n (W : List Wk) (n : Int) : (squadCells W n)[24]? = some (.int .i64 n) := rfl
theorem size_squad : (Try.prog.info? 126).map (·.size) = some 25 := by kernel_rfl
/-- A person more. -/
theorem squad_next (W : List Wk) (n : Int) (x : Wk) (h : W.length < 12) : ((squadCells W n).setIfInBounds (2 * W.length) (.int .i64 x.1)).setIfInBounds (2 * W.length + 1) (.int .i64 x.2) = squadCells (W ++ [x]) n := by
  have hw : ∀ i, wk (W ++ [x]) i = if i = W.length then x else wk W i := fun i => by
    simp only [wk, List.getD_eq_getElem?_getD, List.getElem?_append]
    rcases Nat.lt_trichotomy i W.length with hi | hi | hi
    · rw [if_pos hi, if_neg (by omega)]
    · subst hi
      rw [if_neg (by omega), if_pos rfl]
      simp
    · rw [if_neg (by omega), if_neg (by omega), List.getElem?_eq_none (by simp; omega), List.getElem?_eq_none (by omega)]
  unfold squadCells
  simp only [hw]
  generalize W.length = k at h ⊢
  match k, h with
  | 0, _ => rfl
  | 1, _ => rfl
  | 2, _ => rfl
  | 3, _ => rfl
  | 4, _ => rfl
  | 5, _ => rfl
  | 6, _ => rfl
  | 7, _ => rfl
  | 8, _ => rfl
  | 9, _ => rfl
  | 10, _ => rfl
  | 11, _ => rfl

/-- Draws and blocks behind a world. -/
def Grown (W W' : World) : Prop := ∃ q os, W' = Go.Sort.grow (W.drewN q) os
theorem drewN_grow (W : World) (os : Array Obj) : ∀ q, (Go.Sort.grow W os).drewN q = Go.Sort.grow (W.drewN q) os
  | _ => rfl
theorem Grown.refl (W : World) : Grown W W := ⟨0, #[], by rw [Go.Sort.grow_empty]; rfl⟩
theorem Grown.alloc {W W' : World} (h : Grown W W') (o : Obj) : Grown W (W'.alloc o) := by
  obtain ⟨q, os, rfl⟩ := h
  exact ⟨q, os ++ #[o], by rw [Go.Sort.alloc_eq_grow, Go.Sort.grow_grow]⟩
theorem Grown.drewN {W W' : World} (h : Grown W W') (n : Nat) : Grown W (W'.drewN n) := by
  obtain ⟨q, os, rfl⟩ := h
  exact ⟨q + n, os, by rw [drewN_grow]; first | rfl | rw [World.drewN_drewN]⟩
theorem Grown.drew {W W' : World} (h : Grown W W') : Grown W W'.drew := h.drewN 1
theorem Grown.trans {W W' W'' : World} (h : Grown W W') (k : Grown W' W'') : Grown W W'' := by
  obtain ⟨q, os, rfl⟩ := h
  obtain ⟨r, ps, rfl⟩ := k
  exact ⟨q + r, os ++ ps, by rw [drewN_grow, Go.Sort.grow_grow]; first | rfl | rw [World.drewN_drewN]⟩
theorem Grown.below {W W' : World} (h : Grown W W') : Below W.heap.size W W' := by
  obtain ⟨q, os, rfl⟩ := h
  exact ⟨rfl, rfl, rfl, by simp [Go.Sort.grow], fun k hk => Go.Sort.heap_grow_old _ _ hk⟩

def Try.laysW_ren : Go.Shelf.Ren := ⟨fun | 20 => 119 | n => n, fun | 0 => 0 | 3 => 3 | 4 => 4 | 22 => 134 | 24 => 123 | 25 => 139 | n => n, fun | n => n⟩
theorem Try.laysW : Go.Proofs.SlLaysF0.n20 Try.prog Try.laysW_ren := {
  mixed := by kernel_rfl
  f20 := ⟨ "slices.insertionSortCmpFunc[loop.example/g01272/impl.walker]", by decide, Try.func119.trans (congrArg some (by kernel_rfl))⟩
  t0 := Try.underlying0
  a0 := Try.isAgg0
  z0 := Try.sizeOf0
  v0 := Try.zeroValue0
  t3 := Try.underlying3
  a3 := Try.isAgg3
  z3 := Try.sizeOf3
  v3 := Try.zeroValue3
  t4 := Try.underlying4
  a4 := Try.isAgg4
  z4 := Try.sizeOf4
  v4 := Try.zeroValue4
  t22 := Try.underlying134
  a22 := Try.isAgg134
  z22 := Try.sizeOf134
  v22 := Try.zeroValue134
  t25 := Try.underlying139
  a25 := Try.isAgg139
  z25 := Try.sizeOf139
  v25 := Try.zeroValue139
}

set_option maxHeartbeats 400000 in
theorem isNaN_any (x : Int) (w : World) : Calls Try.prog 90 #[.int .i64 x] w fun e w' => e = .returned (.bool false) ∧ w = w' := by
  go_enter Try.func90, Try.ntmps90
  go_wp2
  go_ret
  exact ⟨by simp, rfl⟩
set_option maxHeartbeats 800000 in
theorem compare_any (x y : Int) (w : World) : Calls Try.prog 117 #[.int .i64 x, .int .i64 y] w fun e w' => e = .returned (.int .i64 (Go.Lib.compareInt x y)) ∧ w = w' := by
  by_cases h : x < y
  · have HC : Hid (Go.Lib.compareInt x y = -1) := if_pos h
    go_enter Try.func117, Try.ntmps117
    go_wp2_with (go_at_call 90; refine (isNaN_any _ _).mono ?_; rintro e w' ⟨rfl, rfl⟩)
    go_ret
    exact ⟨ret_of (by rw [HC.out]; rfl), rfl⟩
  · by_cases h2 : y < x
    · have HC : Hid (Go.Lib.compareInt x y = 1) := by show _ = _; rw [Go.Lib.compareInt, if_neg h, if_pos h2]
      go_enter Try.func117, Try.ntmps117
      go_wp2_with (go_at_call 90; refine (isNaN_any _ _).mono ?_; rintro e w' ⟨rfl, rfl⟩)
      go_ret
      exact ⟨ret_of (by rw [HC.out]; rfl), rfl⟩
    · have HC : Hid (Go.Lib.compareInt x y = 0) := by show _ = _; rw [Go.Lib.compareInt, if_neg h, if_neg h2]
      go_enter Try.func117, Try.ntmps117
      go_wp2_with (go_at_call 90; refine (isNaN_any _ _).mono ?_; rintro e w' ⟨rfl, rfl⟩)
      go_ret
      exact ⟨ret_of (by rw [HC.out]; rfl), rfl⟩
theorem compare_lt : ltOf (fun a b : Wk => Go.Lib.compareInt a.2 b.2) = wlt := by
  funext x y
  show decide ((if x.2 < y.2 then (-1 : Int) else if x.2 > y.2 then 1 else 0) < 0) = decide (x.2 < y.2)
  by_cases h : x.2 < y.2
  · simp [h]
  · rw [if_neg h]
    split <;> simp [h]

set_option maxHeartbeats 800000 in
theorem pace_any (x : Wk) (w : World) : Calls Try.prog 112 #[.agg #[.int .i64 x.1, .int .i64 x.2]] w fun e w' => e = .returned (.int .i64 x.2) ∧ Grown w w' := by
  have HG := Lib.hid ((Grown.refl w).alloc (.cells #[.int .i64 x.1, .int .i64 x.2] 123))
  go_enter Try.func112, Try.ntmps112
  go_wp2
  go_ret
  exact ⟨rfl, HG.out⟩

/-- The key by which people are sorted, as a value. -/
def paceV : Value := .func (.func 112) #[] #[]
set_option maxHeartbeats 3200000 in
set_option maxRecDepth 100000 in
theorem closure_any (x y : Wk) (B : Nat) (w : World) (hl : B < w.heap.size) (hB : w.cell? ⟨B, 0, none⟩ = some paceV) :
    Calls Try.prog 116 #[.agg #[.int .i64 x.1, .int .i64 x.2], .agg #[.int .i64 y.1, .int .i64 y.2], .pointer (some ⟨B, 0, none⟩)] w fun e w' => e = .returned (.int .i64 (Go.Lib.compareInt x.2 y.2)) ∧ Grown w w' := by
  have hg := ((Grown.refl w).alloc (.cells #[.int .i64 x.1, .int .i64 x.2] 123)).alloc (.cells #[.int .i64 y.1, .int .i64 y.2] 123)
  have hx := (Whole.fresh w 123 #[.int .i64 x.1, .int .i64 x.2]).alloc (.cells #[.int .i64 y.1, .int .i64 y.2] 123)
  have hy := Whole.fresh (w.alloc (.cells #[.int .i64 x.1, .int .i64 x.2] 123)) 123 #[.int .i64 y.1, .int .i64 y.2]
  rw [World.size_alloc] at hy
  have hk : ((w.alloc (.cells #[.int .i64 x.1, .int .i64 x.2] 123)).alloc (.cells #[.int .i64 y.1, .int .i64 y.2] 123)).cell? ⟨B, 0, none⟩ = some paceV := (hg.below.cell (p := ⟨B, 0, none⟩) hl).trans hB
  obtain ⟨x0, x1, -, -⟩ := hx.two
  obtain ⟨y0, y1, -, -⟩ := hy.two
  have HG := Lib.hid hg
  have HX := Lib.hid hx
  have HY := Lib.hid hy
  clear hg hx hy hB
  unfold paceV at *
  go_enter Try.func116, Try.ntmps116
  go_upto_region 1 with fail
  go_region_held3 (fun w' => w'.cell? ⟨B, 0, none⟩ = some (.func (.func 112) #[] #[]) ∧ (w'.cell? ⟨w.heap.size, 0, none⟩ = some (.int .i64 x.1) ∧ w'.cell? ⟨w.heap.size, 1, none⟩ = some (.int .i64 x.2)) ∧ (w'.cell? ⟨w.heap.size + 1, 0, none⟩ = some (.int .i64 y.1) ∧ w'.cell? ⟨w.heap.size + 1, 1, none⟩ = some (.int .i64 y.2))) (go_keep)
    (first | (go_at_call 112; refine (pace_any x _).mono ?_; rintro e wx ⟨rfl, hgx⟩; have hbx := hgx.below; have hkx := (hbx.cell (p := ⟨B, 0, none⟩) (by simp; omega)).trans hk; have hxx := HX.out.drew.below hbx; have hyx := HY.out.drew.below hbx; obtain ⟨xx0, xx1, -, -⟩ := hxx.two; obtain ⟨yx0, yx1, -, -⟩ := hyx.two; have HGX := Lib.hid (HG.out.drew.trans hgx); have hlx := HGX.out.below.size; clear hgx hbx) | (go_at_call 112; refine (pace_any y _).mono ?_; rintro e wy ⟨rfl, hgy⟩; have hby := hgy.below; have hky := (hby.cell (p := ⟨B, 0, none⟩) (Nat.lt_of_lt_of_le hl HGX.out.below.size)).trans hkx; have hxy := hxx.below hby; have hyy := hyx.below hby; obtain ⟨xy0, xy1, -, -⟩ := hxy.two; obtain ⟨yy0, yy1, -, -⟩ := hyy.two; have HGY := Lib.hid (HGX.out.trans hgy); clear hgy hby) | (go_at_call 117; refine (compare_any _ _ _).mono ?_; rintro e wc ⟨rfl, rfl⟩) | fail)
  go_wp2
  go_ret
  exact ⟨rfl, HGY.out⟩
end Go.Proofs.Ytcoagbcleccmmaa

namespace Go.Proofs.Ytcoagbcleccmmaa
open Go.RowKit Go.Sort

def encW (x : Wk) : List Value := [.int .i64 x.1, .int .i64 x.2]
def cmpW (x y : Wk) : Int := Go.Lib.compareInt x.2 y.2
theorem encW_len (x : Wk) : (encW x).length = 2 := rfl
theorem encW_one (x : Wk) : ∀ v ∈ encW x, v.oneCell' = true := fun v hv => by
  simp [encW] at hv
  rcases hv with rfl | rfl <;> rfl
theorem cmpLays (g B n : Nat) (w : World) (hg : g < w.heap.size) (hB : B < w.heap.size) (hne : B ≠ g) (hc : w.cell? ⟨B, 0, none⟩ = some paceV) :
    CmpLays Try.prog 116 #[.pointer (some ⟨B, 0, none⟩)] encW 2 cmpW g 0 n w := by
  intro m os dk _ x y
  have hs := size_sortWorldK_c encW 2 w g 0 m dk os
  have hcell : (sortWorldK encW 2 w g 0 m dk os).cell? ⟨B, 0, none⟩ = some paceV := by
    unfold sortWorldK
    rw [cell?_grow _ _ _ (by rw [size_putRowK]; exact hB), cell?_putRowK_other _ _ _ _ _ _ _ hne]
    exact hc
  exact closure_any x y B _ (Nat.lt_of_lt_of_le hB hs) hcell

set_option maxHeartbeats 1600000 in
set_option maxRecDepth 100000 in
theorem stable_any (d : Array Wk) (g B cap : Nat) (w : World) (hH : HoldsK encW 2 w g 0 d) (hg : g < w.heap.size) (hB : B < w.heap.size) (hne : B ≠ g) (hc : w.cell? ⟨B, 0, none⟩ = some paceV) (h12 : d.size ≤ 12) :
    Calls Try.prog 118 #[.slice (some ⟨g, 0, none⟩) d.size cap, .int .i64 d.size, .func (.func 116) #[] #[.pointer (some ⟨B, 0, none⟩)]] w fun e w' => e = .returned (.tuple #[]) ∧ ∃ m os, w' = sortWorldK encW 2 w g 0 m (insertionSort wlt d 0 d.size) os := by
  have eg : ∀ args W, (callFunc 116 args).run Try.prog W = .ok (.enter 116 args) W := enters_of Try.func116 (by kernel_rfl) rfl
  have hins := AnyQ.insertionSortCmpFunc Try.laysW 2 Try.isAgg123 Try.sizeOf123 encW encW_len encW_one cmpW 116 #[.pointer (some ⟨B, 0, none⟩)] g 0 cap 0 d.size d w eg (cmpLays g B d.size w hg hB hne hc) hH hg (Nat.zero_le _) (Nat.le_refl _) (by omega)
  change Calls Try.prog 119 _ _ _ at hins
  rw [show ltOf cmpW = wlt from compare_lt] at hins
  generalize insertionSort wlt d 0 d.size = r at hins ⊢
  have h20 : (d.size : Int) < 20 := by omega
  have HI := Lib.hid hins
  clear hins hH hc
  go_enter Try.func118, Try.ntmps118
  go_wp2
  refine wp_loop_rounds 1 ?_
  rw [rounds_succ]
  go_wp2_with (go_at_call 119; refine HI.out.mono ?_; rintro e w' ⟨rfl, m, os, rfl⟩)
  refine wp_loop_rounds 1 ?_
  rw [rounds_succ]
  go_wp2
  go_end0
  exact ⟨rfl, m, os, rfl⟩

set_option maxHeartbeats 1600000 in
theorem stableFunc_any (d : Array Wk) (g B cap : Nat) (w : World) (hH : HoldsK encW 2 w g 0 d) (hg : g < w.heap.size) (hB : B < w.heap.size) (hne : B ≠ g) (hc : w.cell? ⟨B, 0, none⟩ = some paceV) (h12 : d.size ≤ 12) :
    Calls Try.prog 115 #[.slice (some ⟨g, 0, none⟩) d.size cap, .func (.func 116) #[] #[.pointer (some ⟨B, 0, none⟩)]] w fun e w' => e = .returned (.tuple #[]) ∧ ∃ m os, w' = sortWorldK encW 2 w g 0 m (insertionSort wlt d 0 d.size) os := by
  have hins := stable_any d g B cap w hH hg hB hne hc h12
  generalize insertionSort wlt d 0 d.size = r at hins ⊢
  have HI := Lib.hid hins
  clear hins hH hc
  go_enter Try.func115, Try.ntmps115
  go_wp2_with (go_at_call 118; refine HI.out.mono ?_; rintro e w' ⟨rfl, m, os, rfl⟩)
  go_end0
  exact ⟨rfl, m, os, rfl⟩

set_option maxHeartbeats 1600000 in
theorem sortBy_any (d : Array Wk) (g cap : Nat) (w : World) (hH : HoldsK encW 2 w g 0 d) (hg : g < w.heap.size) (h12 : d.size ≤ 12) :
    Calls Try.prog 111 #[.slice (some ⟨g, 0, none⟩) d.size cap, paceV] w fun e w' => e = .returned (.tuple #[]) ∧ ∃ m os, w' = sortWorldK encW 2 (w.alloc (.cells #[paceV] 135)) g 0 m (insertionSort wlt d 0 d.size) os := by
  have hH2 : HoldsK encW 2 (w.alloc (.cells #[paceV] 135)) g 0 d := by
    rw [alloc_eq_grow]
    exact holdsK_grow encW 2 w _ g 0 d hg hH
  have hins := stableFunc_any d g w.heap.size cap (w.alloc (.cells #[paceV] 135)) hH2 (by simp; omega) (by simp) (by omega) ((Whole.fresh w 135 #[paceV]).cell 0) h12
  generalize insertionSort wlt d 0 d.size = r at hins ⊢
  have HI := Lib.hid hins
  clear hins hH hH2
  go_enter Try.func111, Try.ntmps111
  go_wp2_with (go_at_call 115; refine HI.out.mono ?_; rintro e w' ⟨rfl, m, os, rfl⟩)
  go_end0
  exact ⟨rfl, m, os, rfl⟩
end Go.Proofs.Ytcoagbcleccmmaa

namespace Go.Proofs.Ytcoagbcleccmmaa
open Go.RowKit

/-- Times of people of whom two may cross at once. -/
def prOk (xs : List Int) : Bool := within xs.length 1 12 && allIn xs 1 1000
theorem prOk_len {xs : List Int} (h : xs.length < 1 ∨ 12 < xs.length) : prOk xs = false := by
  rw [prOk, within_no (by omega)]
  rfl
theorem prOk_time {xs : List Int} {k : Nat} (h : k < xs.length) (ht : xs[k] < 1 ∨ 1000 < xs[k]) : prOk xs = false := by
  rw [prOk, allIn_no h (within_no ht), Bool.and_false]
theorem prOk_all {xs : List Int} (h1 : 1 ≤ xs.length) (h2 : xs.length ≤ 12) (h : ∀ j (hj : j < xs.length), 1 ≤ xs[j] ∧ xs[j] ≤ 1000) : prOk xs = true := by
  rw [prOk, within_yes (by omega) (by omega), Bool.true_and, allIn_iff]
  intro y hy
  obtain ⟨j, hj, rfl⟩ := List.getElem_of_mem hy
  exact h j hj
theorem prOk_parts {xs : List Int} (h : prOk xs = true) : 1 ≤ xs.length ∧ xs.length ≤ 12 ∧ ∀ y ∈ xs, 1 ≤ y ∧ y ≤ 1000 := by
  simp only [prOk, Bool.and_eq_true] at h
  have h1 := within_iff.1 h.1
  exact ⟨by omega, by omega, (allIn_iff _ _ _).1 h.2⟩
/-- The people in the order in which they are told. -/
def plain (xs : List Int) (k : Nat) : List Wk := mk xs ((List.range k).map Int.ofNat)
theorem plain_len (xs : List Int) (k : Nat) : (plain xs k).length = k := by simp [plain, mk]
theorem plain_next (xs : List Int) (k : Nat) : plain xs (k + 1) = plain xs k ++ [((k : Int), tm xs k)] := by
  simp [plain, mk, List.range_succ]
theorem holdsK_squad {w : World} {g : Nat} {W : List Wk} {n : Int} (h : Whole w g 126 (squadCells W n)) (h12 : W.length ≤ 12) : Go.Sort.HoldsK encW 2 w g 0 W.toArray := by
  intro t ht
  refine ⟨?_, h.open_ _⟩
  rw [Go.Sort.size_flatK] at ht
  have hk : t / 2 < W.length := by simp at ht; omega
  rw [Nat.zero_add, h.cell t, Go.Sort.get_flatK _ _ _ _ ht]
  have hw : W.toArray[t / 2]! = wk W (t / 2) := by simp [wk, hk]
  rw [hw]
  rcases Nat.mod_two_eq_zero_or_one t with hm | hm
  · rw [hm]
    have := squad_who W n (k := t / 2) (by omega)
    rwa [show 2 * (t / 2) = t by omega] at this
  · rw [hm]
    have := squad_time W n (k := t / 2) (by omega)
    rwa [show 2 * (t / 2) + 1 = t by omega] at this
theorem put_squad {W : List Wk} {n : Int} {r : Array Wk} (h12 : W.length ≤ 12) (hr : r.size = W.length) : Go.Sort.putCells id 0 (Go.Sort.flatK encW 2 r) (squadCells W n) = squadCells r.toList n := by
  have hs : (Go.Sort.putCells id 0 (Go.Sort.flatK encW 2 r) (squadCells W n)).size = 25 := by simp [Go.Sort.putCells, squad_size]
  apply Array.ext_getElem?
  intro t
  rcases Nat.lt_or_ge t 25 with h25 | h25
  · have hat : (Go.Sort.putCells id 0 (Go.Sort.flatK encW 2 r) (squadCells W n))[t]? = ((squadCells W n)[t]?).map fun x => if t < r.size * 2 then (Go.Sort.flatK encW 2 r)[t]! else x := by
      simp [Go.Sort.putCells, Go.Sort.size_flatK]
    rw [hat]
    by_cases ht : t < r.size * 2
    · have hk : t / 2 < r.size := by omega
      have hw : r[t / 2]! = wk r.toList (t / 2) := by simp [wk, hk, getElem!_def]
      have hs1 : (squadCells W n)[t]? = some ((squadCells W n)[t]'(by rw [squad_size]; exact h25)) := Array.getElem?_eq_getElem _
      rw [hs1, Option.map_some, if_pos ht, Go.Sort.get_flatK _ _ _ _ ht, hw]
      rcases Nat.mod_two_eq_zero_or_one t with hm | hm
      · have := squad_who r.toList n (k := t / 2) (by omega)
        rw [show 2 * (t / 2) = t by omega] at this
        rw [this, hm]
        rfl
      · have := squad_time r.toList n (k := t / 2) (by omega)
        rw [show 2 * (t / 2) + 1 = t by omega] at this
        rw [this, hm]
        rfl
    · simp only [if_neg ht, Option.map_id']
      by_cases h24 : t = 24
      · subst h24; rfl
      · have hz : wk W (t / 2) = wk r.toList (t / 2) := by
          have h1 : W.length ≤ t / 2 := by omega
          have h2 : r.toList.length ≤ t / 2 := by simp; omega
          simp [wk, List.getD_eq_getElem?_getD, List.getElem?_eq_none h1, List.getElem?_eq_none h2]
        rcases Nat.mod_two_eq_zero_or_one t with hm | hm
        · have a := squad_who W n (k := t / 2) (by omega)
          have b := squad_who r.toList n (k := t / 2) (by omega)
          rw [show 2 * (t / 2) = t by omega] at a b
          rw [a, b, hz]
        · have a := squad_time W n (k := t / 2) (by omega)
          have b := squad_time r.toList n (k := t / 2) (by omega)
          rw [show 2 * (t / 2) + 1 = t by omega] at a b
          rw [a, b, hz]
  · rw [Array.getElem?_eq_none (by omega), Array.getElem?_eq_none (by rw [squad_size]; exact h25)]
theorem whole_sorted {w : World} {g m : Nat} {os : Array Obj} {W : List Wk} {n : Int} {r : Array Wk} (h : Whole w g 126 (squadCells W n)) (h12 : W.length ≤ 12) (hr : r.size = W.length) : Whole (sortWorldK encW 2 w g 0 m r os) g 126 (squadCells r.toList n) := by
  rw [← put_squad h12 hr]
  have hg := h.lt
  unfold Whole at h ⊢
  unfold sortWorldK Go.Sort.putRowK
  rw [Go.Sort.heap_grow_old _ _ (by simpa [Go.Sort.putRow, Go.Sort.mapBlock, Go.Sort.ahead] using hg)]
  simp only [Go.Sort.putRow, Go.Sort.mapBlock, Go.Sort.ahead, Array.getElem?_modify, h]
  rfl
theorem others_sorted {w : World} {g m : Nat} {os : Array Obj} {r : Array Wk} : (sortWorldK encW 2 w g 0 m r os).os = w.os ∧ (sortWorldK encW 2 w g 0 m r os).tape = w.tape ∧ (sortWorldK encW 2 w g 0 m r os).output = w.output ∧ w.heap.size ≤ (sortWorldK encW 2 w g 0 m r os).heap.size ∧ ∀ k, k < w.heap.size → k ≠ g → (sortWorldK encW 2 w g 0 m r os).heap[k]? = w.heap[k]? := by
  refine ⟨rfl, rfl, rfl, size_sortWorldK_c _ _ _ _ _ _ _ _, fun k hk hne => ?_⟩
  unfold sortWorldK Go.Sort.putRowK
  rw [Go.Sort.heap_grow_old _ _ (by simpa [Go.Sort.putRow, Go.Sort.mapBlock, Go.Sort.ahead] using hk)]
  have hne' : ¬ g = k := fun h => hne h.symm
  simp only [Go.Sort.putRow, Go.Sort.mapBlock, Go.Sort.ahead, Array.getElem?_modify, if_neg hne']

/-- What squadOf hands back. -/
def SquadPost (xs : List Int) (w : World) (e : Ending) (w' : World) : Prop :=
  ((prOk xs = true ∧ e = .returned (.tuple #[.agg (squadCells (mk xs (ord xs)) xs.length), .bool true])) ∨ (prOk xs = false ∧ e = .returned (.tuple #[.agg (squadCells [] 0), .bool false]))) ∧ Below w.heap.size w w'
end Go.Proofs.Ytcoagbcleccmmaa

namespace Go.Proofs.Ytcoagbcleccmmaa
open Go.RowKit

theorem squad_ret {w : World} {tmps : Array Value} {g : Nat} {cs : Array Value} {b : Bool} (h2 : tmps.getD 2 undef = .pointer (some ⟨g, 0, none⟩)) (h3 : tmps.getD 3 undef = .bool b) (hw : Whole w g 126 cs) (hs : cs.size = 25) :
    (results Try.f108 tmps).run Try.prog w = .ok (.tuple #[.agg cs, .bool b]) w := by
  have hl := run_loadVar_row (P := Try.prog) w g 126 126 cs (0, 0) _ hw Try.underlying126 rfl (by rw [hs]; exact size_squad)
  have h2' : tmps[2]?.getD undef = .pointer (some ⟨g, 0, none⟩) := by simpa using h2
  have h3' : tmps[3]?.getD undef = .bool b := by simpa using h3
  simp [results, Try.results108, h2', h3', asAddr, hl]

set_option maxHeartbeats 6400000 in
set_option maxRecDepth 100000 in
theorem squadOf_any (A : Option Addr) (n c : Nat) (xs : List Int) (w : World) (hA : Holds w A (nums xs)) (hx : xs.length = n) (hn : n ≤ 9223372036854775807) :
    Calls Try.prog 108 #[.slice A n c] w (SquadPost xs w) := by
  have HX := Lib.hid hx
  by_cases hlen : n < 1 ∨ 12 < n
  · have HNO := Lib.hid (prOk_len (xs := xs) (by omega))
    clear hx
    rcases hlen with hlen | hlen
    all_goals
      go_enter Try.func108, Try.ntmps108
      go_upto_region 1 with fail
      refine (?_ : ∀ W0, W0 = w.alloc (.cells (squadCells [] 0) 126) → Code.wp _ _ _ _ W0) _ rfl
      intro W0 hW0
      have h0 : Whole W0 w.heap.size 126 (squadCells [] 0) := by rw [hW0]; exact Whole.fresh w _ _
      have hb0 : Below w.heap.size w W0 := by rw [hW0]; exact below1 w _
      have HH0 := Lib.hid h0
      have HB0 := Lib.hid hb0
      clear hW0 h0 hb0
      go_upto_region 2 with fail
      go_wp2_with (refine wpList_store_whole rfl 126 (.tmp 2) (.tmp 15) rfl w.heap.size (squadCells [] 0) rfl rfl 126 (squadCells [] 0) HH0.out size_squad rfl (squad_one _ _) ?_; intro W1 hw1 ho1)
      have HW1 := Lib.hid hw1
      have HB1 := Lib.hid (ho1.below HB0.out (Nat.le_refl _))
      clear hw1 ho1
      refine bodyPost_ret (v := .tuple #[.agg (squadCells [] 0), .bool false]) (squad_ret rfl rfl HW1.out rfl) rfl ?_
      exact ⟨.inr ⟨HNO.out, rfl⟩, HB1.out⟩
  · have h12 : n ≤ 12 := by omega
    have h1n : 1 ≤ n := by omega
    clear hx hlen
    go_enter Try.func108, Try.ntmps108
    go_upto_region 1 with fail
    refine (?_ : ∀ W0, W0 = w.alloc (.cells (squadCells [] 0) 126) → Code.wp _ _ _ _ W0) _ rfl
    intro W0 hW0
    have h0 : Whole W0 w.heap.size 126 (squadCells [] 0) := by rw [hW0]; exact Whole.fresh w _ _
    have hb0 : Below w.heap.size w W0 := by rw [hW0]; exact below1 w _
    have hlt0 : w.heap.size < W0.heap.size := by rw [hW0]; simp
    have HH0 := Lib.hid h0
    have HB0 := Lib.hid hb0
    clear hW0 h0 hb0
    go_upto_region 3 with fail
    go_upto_region 4 with (refine wpList_store_whole rfl 126 (.tmp 4) (.tmp 18) rfl W0.heap.size (squadCells [] n) rfl rfl 126 _ (Whole.fresh _ _ _) size_squad rfl (squad_one _ _) ?_; intro W1 hw1 ho1)
    have hb1 := ho1.below (HB0.out.alloc HB0.out.size (.cells (squadCells [] 0) 126)) (Nat.le_of_lt hlt0)
    have h01 := ho1.whole (HH0.out.alloc (.cells (squadCells [] 0) 126)) (by omega)
    have HB1 := Lib.hid hb1
    have HW1 := Lib.hid hw1
    have H01 := Lib.hid h01
    clear hw1 ho1 hb1 h01
    go_wp2_with fail
    go_loopw [21] (fun i wr => ∃ k : Nat, k ≤ n ∧ i = .int .i64 k ∧ Whole wr w.heap.size 126 (squadCells [] 0) ∧ Whole wr W0.heap.size 126 (squadCells (plain xs k) n) ∧ Below w.heap.size w wr ∧ (∀ j (hj : j < xs.length), j < k → 1 ≤ xs[j] ∧ xs[j] ≤ 1000)) (fun i _ => n - (intOf i).toNat)
    case atStart => exact ⟨0, Nat.zero_le _, rfl, H01.out, HW1.out, HB1.out, fun j _ h => absurd h (by omega)⟩
    case round =>
      obtain ⟨k, hk, rfl, hz, hw, hb, hall⟩ := hrel
      clear HB1 HW1 H01
      by_cases hkn : k < n
      · have hkx : k < xs.length := by have := HX.out; omega
        obtain ⟨b1, o1, rfl, hbl1, hcell⟩ := (hA.below hb).look (k := k) (by rw [nums_len]; exact hkx)
        simp only [nums, List.getElem_map] at hcell
        have HZ := Lib.hid hz
        have HW := Lib.hid hw
        have HB := Lib.hid hb
        have HALL := Lib.hid hall
        have hbad := prOk_time (xs := xs) hkx
        have hgood : ∀ j (hj : j < xs.length), j < k + 1 → 1 ≤ xs[k] → xs[k] ≤ 1000 → 1 ≤ xs[j] ∧ xs[j] ≤ 1000 := fun j hj hjk h1 h2 => by
          rcases Nat.lt_or_ge j k with h | h
          · exact HALL.out j hj h
          · obtain rfl : j = k := by omega
            exact ⟨h1, h2⟩
        have htm := tm_at hkx
        generalize xs[k] = x at hcell hbad hgood htm
        have HGOOD := Lib.hid hgood
        have HTM := Lib.hid htm
        by_cases hxb : x < 1 ∨ 1000 < x
        · have HNO := Lib.hid (hbad hxb)
          clear hz hw hb hall hbad hgood htm
          rcases hxb with hxb | hxb
          all_goals
            go_wp2_with (refine wpList_store_whole rfl 126 (.tmp 2) (.tmp 32) rfl w.heap.size (squadCells [] 0) rfl rfl 126 (squadCells [] 0) HZ.out size_squad rfl (squad_one _ _) ?_; intro W2 hw2 ho2)
            have HW2 := Lib.hid hw2
            have HB2 := Lib.hid (ho2.below HB.out (Nat.le_refl _))
            clear hw2 ho2
            refine bodyPost_ret (v := .tuple #[.agg (squadCells [] 0), .bool false]) (squad_ret rfl rfl HW2.out rfl) rfl ?_
            exact ⟨.inr ⟨HNO.out, rfl⟩, HB2.out⟩
        · have hx1 : 1 ≤ x := by omega
          have hx2 : x ≤ 1000 := by omega
          have hk12 : (k : Int) < 12 := by omega
          have hc0 := (hw.cell (2 * k)).trans (squad_who _ _ (by omega))
          have hc1 := (hw.cell (2 * k + 1)).trans (squad_time _ _ (by omega))
          have hf0 := hw.open_ (2 * k)
          have hf1 := hw.open_ (2 * k + 1)
          clear hz hw hb hall hbad hgood htm hxb
          rw [show 2 * k = k * 2 from Nat.mul_comm _ _] at hc0 hc1 hf0 hf1
          go_upto_region 10 with fail
          have hwn : Whole ((wr.setCell ⟨W0.heap.size, k * 2, none⟩ (.int .i64 k)).setCell ⟨W0.heap.size, k * 2 + 1, none⟩ (.int .i64 x)) W0.heap.size 126 (squadCells (plain xs (k + 1)) n) := by
            have h := (HW.out.set_ (k * 2) (.int .i64 k)).set_ (k * 2 + 1) (.int .i64 x)
            have hn := squad_next (plain xs k) n ((k : Int), x) (by rw [plain_len]; omega)
            rw [plain_len, show 2 * k = k * 2 from Nat.mul_comm _ _] at hn
            rw [plain_next, HTM.out, ← hn]
            exact h
          have HWN := Lib.hid hwn
          have HZN := Lib.hid ((HZ.out.off (b := W0.heap.size) (o := k * 2) (u := .int .i64 k) (by omega)).off (b := W0.heap.size) (o := k * 2 + 1) (u := .int .i64 x) (by omega))
          have HBN := Lib.hid (below_set (below_set HB.out (b := W0.heap.size) (o := k * 2) (u := .int .i64 k) (by omega)) (b := W0.heap.size) (o := k * 2 + 1) (u := .int .i64 x) (by omega))
          clear hwn
          go_wp2
          go_roundw
          case rel => exact ⟨k + 1, by omega, by go_num, HZN.out, HWN.out, HBN.out, fun j hj h => HGOOD.out j hj h hx1 hx2⟩
          case measure => simp [intOf]; omega
      · obtain rfl : k = n := by omega
        have hok : prOk xs = true := prOk_all (by have := HX.out; omega) (by have := HX.out; omega) (fun j hj => hall j hj (by have := HX.out; omega))
        have HOK := Lib.hid hok
        have HZ := Lib.hid hz
        have HW := Lib.hid hw
        have HB := Lib.hid hb
        have hw24 := hw.cell 24
        rw [squad_n] at hw24
        have hgl := hw.lt
        have hds : (plain xs k).toArray.size = k := by simp [plain_len]
        have hsort := sortBy_any (plain xs k).toArray W0.heap.size 12 wr (holdsK_squad hw (by rw [plain_len]; omega)) hgl (by rw [hds]; omega)
        rw [hds] at hsort
        have hrl : (Go.Sort.insertionSort wlt (plain xs k).toArray 0 k).toList = mk xs (ord xs) := by
          have := sort_list xs (plain xs k).toArray (by simp [plain, HX.out])
          rw [HX.out] at this
          exact this
        generalize Go.Sort.insertionSort wlt (plain xs k).toArray 0 k = r at hsort hrl
        have hrs : r.size = (plain xs k).length := by rw [plain_len, ← Array.length_toList, hrl, mk_len, ord_len, HX.out]
        have HS := Lib.hid hsort
        have HRL := Lib.hid hrl
        have HRS := Lib.hid hrs
        have HPL := Lib.hid (plain_len xs k)
        have hk0 : (0 : Int) ≤ (k : Int) := by omega
        have hk12 : (k : Int) ≤ 12 := by omega
        clear hz hw hb hall hok hsort hrl hrs hds
        unfold paceV at HS
        go_wp2_with fail
        refine HS.out.mono ?_
        rintro e w2 ⟨rfl, m, os, hw2⟩
        have HWA := HW.out.alloc (.cells #[paceV] 135)
        have hw3 : Whole w2 W0.heap.size 126 (squadCells r.toList k) := by rw [hw2]; exact whole_sorted HWA (by rw [HPL.out]; omega) HRS.out
        obtain ⟨q1, q2, q3, q4, q5⟩ := others_sorted (w := wr.alloc (.cells #[paceV] 135)) (g := W0.heap.size) (m := m) (os := os) (r := r)
        have hz3 : Whole w2 w.heap.size 126 (squadCells [] 0) := by rw [hw2]; exact (q5 _ (HZ.out.alloc _).lt (by omega)).trans (HZ.out.alloc _)
        have hb3 : Below w.heap.size w w2 := by
          rw [hw2]
          refine (HB.out.alloc HB.out.size (.cells #[paceV] 135)).trans ⟨q1, q2, q3, q4, fun j hj => q5 j (by have := HB.out.size; simp; omega) (by omega)⟩
        have HW3 := Lib.hid hw3
        have HZ3 := Lib.hid hz3
        have HB3 := Lib.hid hb3
        clear hw2 HWA hw3 q1 q2 q3 q4 q5 hz3 hb3 hw24
        go_wp2_with (first | (refine wpList_load_row rfl 126 (.tmp 4) rfl W0.heap.size rfl 126 (squadCells r.toList k) (0, 0) _ HW3.out Try.underlying126 rfl size_squad ?_) | (refine wpList_store_whole rfl 126 (.tmp 2) (.tmp 45) rfl w.heap.size (squadCells r.toList k) rfl rfl 126 (squadCells [] 0) HZ3.out size_squad rfl (squad_one _ _) ?_; intro W4 hw4 ho4))
        have HW4 := Lib.hid hw4
        have HB4 := Lib.hid (ho4.below HB3.out (Nat.le_refl _))
        clear hw4 ho4
        refine bodyPost_ret (v := .tuple #[.agg (squadCells r.toList k), .bool true]) (squad_ret rfl rfl HW4.out rfl) rfl ?_
        rw [HRL.out]
        exact ⟨.inl ⟨HOK.out, by rw [HX.out]⟩, HB4.out⟩
end Go.Proofs.Ytcoagbcleccmmaa

namespace Go.Proofs.Ytcoagbcleccmmaa
open Go.RowKit

/-- The people in their order, if there are times; else nobody. -/
def sqW (xs : List Int) : List Wk := if prOk xs then mk xs (ord xs) else []
theorem sqW_yes {xs : List Int} (h : prOk xs = true) : sqW xs = mk xs (ord xs) := if_pos h
theorem sqW_no {xs : List Int} (h : prOk xs = false) : sqW xs = [] := if_neg (by simp [h])
theorem sqW_len (xs : List Int) : (sqW xs).length ≤ 12 := by
  cases h : prOk xs
  · rw [sqW_no h]; simp
  · rw [sqW_yes h, mk_len, ord_len]
    exact (prOk_parts h).2.1
theorem squad_as {xs : List Int} {w w' : World} {e : Ending} (h : SquadPost xs w e w') : e = .returned (.tuple #[.agg (squadCells (sqW xs) (sqW xs).length), .bool (prOk xs)]) ∧ Below w.heap.size w w' := by
  rcases h with ⟨⟨hp, rfl⟩ | ⟨hp, rfl⟩, hb⟩
  · exact ⟨by rw [sqW_yes hp, hp, mk_len, ord_len], hb⟩
  · exact ⟨by rw [sqW_no hp, hp]; rfl, hb⟩
theorem own_fresh1 {w : World} {lo n c : Nat} {ty : TypeId} {A : Option Addr} {xs : List Value} (h : w.ownsRow lo ty 1 (.slice A n c) n xs) : Fresh w lo w.heap.size ty A xs := by
  obtain ⟨A', c', hv, hf⟩ := Fresh.of_own h (Nat.le_refl _)
  obtain ⟨rfl, -⟩ : A = A' ∧ c = c' := by simpa using hv
  exact hf
/-- What a call hands back that makes a list and tells whether it did. -/
def ListPost (ls : List Int) (ok : Bool) (w : World) (e : Ending) (w' : World) : Prop :=
  ∃ (A : Option Addr) (c : Nat), e = .returned (.tuple #[.slice A ls.length c, .bool ok]) ∧ Fresh w' w.heap.size w'.heap.size 3 A (nums ls) ∧ Below w.heap.size w w'
theorem ListPost.no {w w' : World} (h : Below w.heap.size w w') : ListPost [] false w (.returned (.tuple #[.slice none 0 0, .bool false])) w' := ⟨none, 0, rfl, .inl rfl, h⟩
theorem ListPost.own {ls : List Int} {ok : Bool} {w w' : World} {A : Option Addr} {c : Nat} (h : w'.ownsRow w.heap.size 3 1 (.slice A ls.length c) ls.length (nums ls)) (hb : Below w.heap.size w w') : ListPost ls ok w (.returned (.tuple #[.slice A ls.length c, .bool ok])) w' :=
  ⟨A, c, rfl, own_fresh1 h, hb⟩

def ranked (xs : List Int) : List Int := if prOk xs then ord xs else []
theorem ranked_map (xs : List Int) : (sqW xs).map (fun x => x.1) = ranked xs := by
  cases h : prOk xs
  · simp [sqW, ranked, h]
  · simp only [sqW, ranked, h, mk, if_true, List.map_map]
    exact List.map_id _
theorem ranked_le (xs : List Int) : (ranked xs).length ≤ 1048576 := by
  rw [← ranked_map, List.length_map]
  have := sqW_len xs
  omega
/-- The first k of some people. -/
def whos (W : List Wk) (k : Nat) : List Int := (W.take k).map (fun x => x.1)
theorem whos_next {W : List Wk} {k : Nat} (h : k < W.length) : whos W (k + 1) = whos W k ++ [(wk W k).1] := by
  rw [whos, List.take_succ_eq_append_getElem h, List.map_append]
  simp [whos, wk, h]
theorem whos_len {W : List Wk} {k : Nat} (h : k ≤ W.length) : (whos W k).length = k := by simp [whos]; omega

end Go.Proofs.Ytcoagbcleccmmaa

namespace Go.Proofs.Ytcoagbcleccmmaa
open Go.RowKit

/-- Two boxes that the call has made, each with a person. -/
def TwoBoxes (lo : Nat) (a b : Wk) (w : World) (s5 s6 : Value) (wx : World) : Prop :=
  ∃ p q : Nat, s5 = .pointer (some ⟨p, 0, none⟩) ∧ s6 = .pointer (some ⟨q, 0, none⟩) ∧ lo ≤ p ∧ lo ≤ q ∧ p ≠ q ∧ Whole wx p 123 #[.int .i64 a.1, .int .i64 a.2] ∧ Whole wx q 123 #[.int .i64 b.1, .int .i64 b.2] ∧ Below lo w wx

theorem two_ab (a b : Wk) (w : World) : TwoBoxes w.heap.size a b w (.pointer (some ⟨w.heap.size, 0, none⟩)) (.pointer (some ⟨w.heap.size + 1, 0, none⟩)) ((w.alloc (.cells #[.int .i64 a.1, .int .i64 a.2] 123)).alloc (.cells #[.int .i64 b.1, .int .i64 b.2] 123)).drew := by
  refine ⟨w.heap.size, w.heap.size + 1, rfl, rfl, Nat.le_refl _, Nat.le_succ _, by omega, ((Whole.fresh w _ _).alloc _).drew, ?_, (below2 w _ _).drew⟩
  have h := (Whole.fresh (w.alloc (.cells #[.int .i64 a.1, .int .i64 a.2] 123)) 123 #[.int .i64 b.1, .int .i64 b.2]).drew
  rw [World.size_alloc] at h
  exact h
theorem two_ba (a b : Wk) (w : World) : TwoBoxes w.heap.size a b w (.pointer (some ⟨w.heap.size + 1, 0, none⟩)) (.pointer (some ⟨w.heap.size, 0, none⟩)) ((w.alloc (.cells #[.int .i64 b.1, .int .i64 b.2] 123)).alloc (.cells #[.int .i64 a.1, .int .i64 a.2] 123)).drew := by
  refine ⟨w.heap.size + 1, w.heap.size, rfl, rfl, Nat.le_succ _, Nat.le_refl _, by omega, ?_, ((Whole.fresh w _ _).alloc _).drew, (below2 w _ _).drew⟩
  have h := (Whole.fresh (w.alloc (.cells #[.int .i64 b.1, .int .i64 b.2] 123)) 123 #[.int .i64 a.1, .int .i64 a.2]).drew
  rw [World.size_alloc] at h
  exact h

set_option maxHeartbeats 6400000 in
set_option maxRecDepth 100000 in
theorem fetchGain_any (W : List Wk) (y : Wk) (w : World) (ha0 : 0 ≤ (wk W 0).2) (ha1 : (wk W 0).2 ≤ 1000) (hb0 : 0 ≤ (wk W 1).2) (hb1 : (wk W 1).2 ≤ 1000) (hy0 : 0 ≤ y.2) (hy1 : y.2 ≤ 1000) :
    Calls Try.prog 114 #[.agg (squadCells W W.length), .agg #[.int .i64 y.1, .int .i64 y.2]] w fun e w' => e = .returned (.int .i64 ((wk W 0).2 + y.2 - 2 * (wk W 1).2)) ∧ Below w.heap.size w w' := by
  have h0 := (Whole.fresh w 126 (squadCells W W.length)).alloc (.cells #[.int .i64 y.1, .int .i64 y.2] 123)
  have hy := Whole.fresh (w.alloc (.cells (squadCells W W.length) 126)) 123 #[.int .i64 y.1, .int .i64 y.2]
  rw [World.size_alloc] at hy
  have hbw := below2 w (.cells (squadCells W W.length) 126) (.cells #[.int .i64 y.1, .int .i64 y.2] 123)
  have a0 := (h0.cell 0).trans (squad_who W W.length (k := 0) (by omega))
  have a1 := (h0.cell 1).trans (squad_time W W.length (k := 0) (by omega))
  have b0 := (h0.cell 2).trans (squad_who W W.length (k := 1) (by omega))
  have b1 := (h0.cell 3).trans (squad_time W W.length (k := 1) (by omega))
  obtain ⟨W0, hW0⟩ : ∃ W0, W0 = (w.alloc (.cells (squadCells W W.length) 126)).alloc (.cells #[.int .i64 y.1, .int .i64 y.2] 123) := ⟨_, rfl⟩
  rw [← hW0] at h0 hy hbw a0 a1 b0 b1
  have hl0 := hy.lt
  have HW0 := Lib.hid hW0
  have HY := Lib.hid hy
  have HBW := Lib.hid hbw
  generalize wk W 0 = a at *
  generalize wk W 1 = b at *
  clear h0 hy hbw hW0
  go_enter Try.func114, Try.ntmps114
  go_wp2_with fail
  go_cut [5, 6] from 7 to 12 (fun s5 s6 wx => TwoBoxes W0.heap.size a b W0 s5 s6 wx)
  case first =>
    rw [← HW0.out]
    have hn1 : ¬ W0.heap.size = w.heap.size := by omega
    have hn2 : ¬ W0.heap.size + 1 = w.heap.size := by omega
    have hn3 : ¬ w.heap.size = W0.heap.size := by omega
    have hn4 : ¬ w.heap.size = W0.heap.size + 1 := by omega
    go_region_held3 (fun w' => (w'.cell? ⟨w.heap.size, 0, none⟩ = some (.int .i64 a.1) ∧ w'.cell? ⟨w.heap.size, 1, none⟩ = some (.int .i64 a.2)) ∧ (w'.cell? ⟨w.heap.size, 2, none⟩ = some (.int .i64 b.1) ∧ w'.cell? ⟨w.heap.size, 3, none⟩ = some (.int .i64 b.2))) (go_keep) (fail)
    all_goals (go_wp2_with fail; go_meet)
    all_goals first | exact two_ab a b W0 | exact two_ba a b W0
  obtain ⟨p, q, rfl, rfl, hp, hq, hpq, hwp, hwq, hb⟩ := hcut
  obtain ⟨k0, k1, -, -⟩ := (HY.out.below hb).two
  obtain ⟨p0, p1, -, -⟩ := hwp.two
  obtain ⟨q0, q1, -, -⟩ := hwq.two
  have HB := Lib.hid (below_then HBW.out hb HBW.out.size)
  clear hwp hwq hb a0 a1 b0 b1
  go_wp2
  go_ret
  exact ⟨rfl, HB.out⟩
end Go.Proofs.Ytcoagbcleccmmaa

namespace Go.Proofs.Ytcoagbcleccmmaa
open Go.RowKit

/-- Lists of the call's own, each in blocks behind those of the one before. -/
def OwnRows (w : World) : Nat → Nat → List RowV → Prop
  | lo, hi, [] => lo ≤ hi
  | lo, hi, r :: rs => ∃ mid, lo ≤ mid ∧ Fresh w lo mid 3 r.A (nums r.xs) ∧ r.xs.length = r.n ∧ r.n ≤ 1048576 ∧ OwnRows w mid hi rs
theorem OwnRows.le {w : World} : ∀ {rs : List RowV} {lo hi : Nat}, OwnRows w lo hi rs → lo ≤ hi
  | [], _, _, h => h
  | _ :: _, _, _, ⟨_, h1, _, _, _, h2⟩ => Nat.le_trans h1 h2.le
theorem OwnRows.more {w : World} : ∀ {rs : List RowV} {lo hi hi' : Nat}, OwnRows w lo hi rs → hi ≤ hi' → OwnRows w lo hi' rs
  | [], _, _, _, h, h' => Nat.le_trans h h'
  | _ :: _, _, _, _, ⟨m, h1, hf, hl, hn, h2⟩, h' => ⟨m, h1, hf, hl, hn, h2.more h'⟩
theorem OwnRows.below {w w' : World} (hb : Below w.heap.size w w') : ∀ {rs : List RowV} {lo hi : Nat}, OwnRows w lo hi rs → OwnRows w' lo hi rs
  | [], _, _, h => h
  | _ :: _, _, _, ⟨m, h1, hf, hl, hn, h2⟩ => ⟨m, h1, hf.below hb, hl, hn, h2.below hb⟩
theorem OwnRows.set_out {w : World} {b o : Nat} {u : Value} : ∀ {rs : List RowV} {lo hi : Nat}, OwnRows w lo hi rs → (b < lo ∨ hi ≤ b) → OwnRows (w.setCell ⟨b, o, none⟩ u) lo hi rs
  | [], _, _, h, _ => h
  | _ :: _, _, _, ⟨m, h1, hf, hl, hn, h2⟩, hd => ⟨m, h1, hf.set_out (by have := h2.le; omega), hl, hn, h2.set_out (by omega)⟩
theorem OwnRows.snoc {w : World} {r : RowV} : ∀ {rs : List RowV} {lo mid hi : Nat}, OwnRows w lo mid rs → mid ≤ hi → Fresh w mid hi 3 r.A (nums r.xs) → r.xs.length = r.n → r.n ≤ 1048576 → OwnRows w lo hi (rs ++ [r])
  | [], _, _, hi, h, hm, hf, hl, hn => ⟨hi, Nat.le_trans h hm, hf.more h (Nat.le_refl _), hl, hn, Nat.le_refl _⟩
  | _ :: _, _, _, _, ⟨m, h1, hg, hk, ho, h2⟩, hm, hf, hl, hn => ⟨m, h1, hg, hk, ho, h2.snoc hm hf hl hn⟩
theorem OwnRows.ok {w : World} : ∀ {rs : List RowV} {lo hi : Nat}, OwnRows w lo hi rs → ∀ r ∈ rs, RowOk w r
  | [], _, _, _, _, hr => by cases hr
  | r :: rs, _, _, ⟨_, _, hf, hl, hn, h2⟩, x, hx => by
    rcases List.mem_cons.1 hx with rfl | hx
    · exact ⟨hf.holds, hl, by omega⟩
    · exact h2.ok x hx
/-- Lists of lists of the call's own: block g tells where they lie, the lists are behind it and before hi. -/
def OwnGrid (w : World) (g hi : Nat) (rs : List RowV) : Prop := Whole w g 39 (rowVals rs).toArray ∧ OwnRows w (g + 1) hi rs
theorem OwnGrid.grid {w : World} {g hi : Nat} {rs : List RowV} (h : OwnGrid w g hi rs) : Grid w (some ⟨g, 0, none⟩) rs :=
  ⟨h.1.holds, h.2.ok⟩
theorem OwnGrid.below {w w' : World} {g hi : Nat} {rs : List RowV} (h : OwnGrid w g hi rs) (hb : Below w.heap.size w w') : OwnGrid w' g hi rs := ⟨h.1.below hb, h.2.below hb⟩
theorem OwnGrid.alloc {w : World} {g hi : Nat} {rs : List RowV} (h : OwnGrid w g hi rs) (o : Obj) : OwnGrid (w.alloc o) g hi rs := h.below (below1 w o)
theorem OwnGrid.drew {w : World} {g hi : Nat} {rs : List RowV} (h : OwnGrid w g hi rs) : OwnGrid w.drew g hi rs := h.below ⟨rfl, rfl, rfl, Nat.le_refl _, fun _ _ => rfl⟩

/-- What stands in the copy's block behind k rounds. -/
def filledR (ws : List RowV) (n : Nat) : Array Value := (rowVals ws ++ List.replicate (n - ws.length) (Value.slice none 0 0)).toArray
theorem filledR_done {ws : List RowV} {n : Nat} (h : ws.length = n) : filledR ws n = (rowVals ws).toArray := by simp [filledR, h]
theorem filledR_at {ws : List RowV} {n : Nat} (h : ws.length < n) : (filledR ws n)[ws.length]? = some (.slice none 0 0) := by
  simp only [filledR, List.getElem?_toArray]
  rw [List.getElem?_append_right (by rw [rowVals_len]; omega)]
  simp [rowVals_len, List.getElem?_replicate]
  omega
theorem filledR_next {ws : List RowV} {n : Nat} (r : RowV) (h : ws.length < n) : (filledR ws n).setIfInBounds ws.length r.val = filledR (ws ++ [r]) n := by
  obtain ⟨m, hm⟩ : ∃ m, n - ws.length = m + 1 := ⟨n - ws.length - 1, by omega⟩
  have hm' : n - (ws ++ [r]).length = m := by simp; omega
  unfold filledR
  rw [hm, hm', List.replicate_succ]
  simp only [rowVals, List.map_append, List.map_cons, List.map_nil, List.append_assoc, List.singleton_append]
  rw [List.setIfInBounds_toArray]
  congr 1
  rw [List.set_append_right _ _ (by simp)]
  simp
theorem made_rows (n : Nat) : madeCells (Value.slice none 0 0).cells (n * 1) = (List.replicate n (Value.slice none 0 0)).toArray := by
  apply Array.ext_getElem?
  intro j
  simp [madeCells, Value.cells, Nat.mod_one, Array.getElem?_range]
  by_cases h : j < n <;> simp [h]
theorem info_row : (Try.prog.info? 39).map (fun i => (i.zero, i.size, i.bytes)) = some (some (.slice none 0 0), 1, 24) := by kernel_rfl

/-- What toIntSS hands back. -/
def GridPost (n : Nat) (rs : List RowV) (w : World) (e : Ending) (w' : World) : Prop :=
  ∃ (g : Nat) (ws : List RowV), e = .returned (.slice (some ⟨g, 0, none⟩) n n) ∧ w.heap.size ≤ g ∧ OwnGrid w' g w'.heap.size ws ∧ rowNums ws = rowNums rs ∧ ws.length = n ∧ Below w.heap.size w w'

theorem rowNums_next {ws rs : List RowV} {k : Nat} {r : RowV} (h : rowNums ws = (rowNums rs).take k) (hk : k < rs.length) (hr : r.xs = rs[k].xs) : rowNums (ws ++ [r]) = (rowNums rs).take (k + 1) := by
  rw [List.take_succ_eq_append_getElem (by rw [rowNums_len]; exact hk), ← h]
  simp [rowNums, hr]

/-- Two lists of one reading are the same; nothing but draws. -/
theorem eqIntS_drawn (A B : Option Addr) (n m c d : Nat) (xs ys : List Int) (w : World) (k : Nat) (hA : Holds (w.drewN k) A (nums xs)) (hB : Holds (w.drewN k) B (nums ys)) (hx : xs.length = n) (hy : ys.length = m) (he : xs = ys) (hn : n ≤ 9223372036854775807) :
    Calls Try.prog 26 #[.slice A n c, .slice B m d] (w.drewN k) fun e w'' => e = .returned (.bool true) ∧ ∃ q, w'' = w.drewN q :=
  Calls.quiet_of ((eqIntS_any A B n m c d xs ys _ hA hB hx hy hn (by subst he; omega)).mono fun _ _ ⟨h, q⟩ => ⟨by rw [h, sameInts_yes he], q⟩)

theorem rowNums_at {rs ss : List RowV} (h : rowNums rs = rowNums ss) {k : Nat} (hk : k < rs.length) (hk' : k < ss.length) : rs[k].xs = ss[k].xs := by
  have h1 := congrArg (fun l : List (List Int) => l[k]?) h
  simpa [rowNums, hk, hk'] using h1

set_option maxHeartbeats 800000 in
theorem eqIntSS_yes (A B : Option Addr) (n m c d : Nat) (rs ss : List RowV) (w : World) (hA : Grid w A rs) (hB : Grid w B ss) (he : rowNums rs = rowNums ss) (hx : rs.length = n) (hy : ss.length = m) (hn : n ≤ 9223372036854775807) :
    Calls Try.prog 33 #[.slice A n c, .slice B m d] w fun e w' => e = .returned (.bool true) ∧ Below w.heap.size w w' := by
  have hl : rs.length = ss.length := by rw [← rowNums_len rs, ← rowNums_len ss, he]
  subst hx hy
  have hl' : ((rs.length : Int) != (ss.length : Int)) = false := by simp [hl]
  have HL := Lib.hid hl
  have HE := Lib.hid he
  clear hl he
  go_enter Try.func33, Try.ntmps33
  go_wp2
  go_loopw [5] (fun i wr => ∃ k : Nat, k ≤ rs.length ∧ i = .int .i64 k ∧ Below w.heap.size w wr) (fun i _ => rs.length - (intOf i).toNat)
  case atStart => exact ⟨0, Nat.zero_le _, rfl, Below.refl _ _⟩
  case round =>
    obtain ⟨k, hk, rfl, hb⟩ := hrel
    by_cases hlt : k < rs.length
    · have hlt' : k < ss.length := by have := HL.out; omega
      obtain ⟨b, o, rfl, hbl, hc, hok⟩ := (hA.below hb).look hlt
      obtain ⟨b', o', rfl, hbl', hc', hok'⟩ := (hB.below hb).look hlt'
      have HV := Lib.hid (rowNums_at HE.out hlt hlt')
      go_wp2
      go_quiet ((go_at_call 26; exact eqIntS_drawn _ _ _ _ _ _ rs[k].xs ss[k].xs wr _ (hok.1.below (below_draws (Below.refl _ _) _)) (hok'.1.below (below_draws (Below.refl _ _) _)) hok.2.1 hok'.2.1 HV.out hok.2.2))
      go_wp2
      go_roundw
      case rel => exact ⟨k + 1, by omega, by go_num, below_draws hb _⟩
      case measure => simp [intOf]; omega
    · go_wp2
      go_ret
      exact ⟨rfl, hb⟩
end Go.Proofs.Ytcoagbcleccmmaa
