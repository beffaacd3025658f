/-
  What is proved: contracts of the last state, as the model and the program make it. Conditions: the party's times are read as they lie.
  What is proved: plain facts on trips one after the other: who is where behind them, how many of them can be made. Conditions: none.
  What is proved: contracts of a trip made, by the model (paCross) and by the program (cross). Conditions: the trip is one; at most eight people.
  What is proved: plain facts on keeps: dangers, their order, the dangers in a bank. Conditions: none.
  What is proved: contracts of the model's test of a keep (keGood) and of keBefore. Conditions: the lists are read as they lie.
  What is proved: contracts of the program's test of a keep (IsKeep), of isDanger and of slices.Compare on lists of two. Conditions: the lists are read as they lie.
  What is proved: the contract of a trip made by the model. Conditions: the trip is one.
  What is proved: the contract of trips made one after the other by the model. Conditions: the arguments are read as they lie; there is somebody.
  What is proved: contracts of KeepText, of the model. Conditions: the dangers are read as they lie.
  What is proved: rows of texts of the call's own: read, carried on, appended to. Conditions: as each says.
  What is proved: the contract of the program's KeepText. Conditions: the dangers are read as they lie; the table of powers of ten lies as told.
  What is proved: contracts of the laws' own helpers for keeps: their size, their copy, their comparison, their marks. Conditions: the given lists are read as they lie; a copy is of at most 1,048,576 numbers.
  What is proved: the law FnExactKeepText returns true at every argument, and leaves all that was there as it was. Conditions: the arguments are read as they lie.
-/
import Derived.Deep.RegionLawGrows
import Derived.Lib.Small
import Derived.Deep.DeepCutAuto
import Derived.Deep.RegionHeld3
import Derived.Test.YtedkanncdkofaaaDoorJ2PuzzleText
set_option linter.unusedSimpArgs false
set_option linter.unusedVariables false
namespace Go.Proofs.YtedkanncdkofaaaDoor
open Go.RowKit

/-- So many people, all over. -/
def trues (n : Nat) : List Bool := List.replicate n true
theorem trues_len (n : Nat) : (trues n).length = n := by simp [trues]
theorem trues_next (n : Nat) : bits (trues n) ++ [.bool true] = bits (trues (n + 1)) := by
  simp [bits, trues, List.replicate_succ']

/-- The places of the last state: none where there is no party. -/
def lastBits (xs : List Int) (n : Nat) (s : Int) : List Bool := if isParty xs s then trues n else []
theorem lastBits_le (xs : List Int) (n : Nat) (s : Int) : (lastBits xs n s).length ≤ n := by
  rw [lastBits]
  split
  · rw [trues_len]; exact Nat.le_refl _
  · simp

theorem place_over (n : Nat) (h : n < 8) : (placeCells (trues n) true).setIfInBounds n (.bool true) = placeCells (trues (n + 1)) true := by
  match n, h with
  | 0, _ => rfl
  | 1, _ => rfl
  | 2, _ => rfl
  | 3, _ => rfl
  | 4, _ => rfl
  | 5, _ => rfl
  | 6, _ => rfl
  | 7, _ => rfl
theorem place_one (bs : List Bool) (t : Bool) : (placeCells bs t).all (·.oneCell') = true := by simp [placeCells, Value.oneCell']

end Go.Proofs.YtedkanncdkofaaaDoor

namespace Go.Proofs.YtedkanncdkofaaaDoor
open Go.RowKit

/-- The places behind a trip: those on the list have changed sides. -/
def flipped (bs : List Bool) (l : List Int) : List Bool := (List.range bs.length).map fun i => bs.getD i false != has l i
theorem flipped_len (bs : List Bool) (l : List Int) : (flipped bs l).length = bs.length := by simp [flipped]
theorem flipped_at (bs : List Bool) (l : List Int) {i : Nat} (h : i < bs.length) : (flipped bs l)[i]? = some (bs.getD i false != has l i) := by simp [flipped, h]
theorem flipped_get (bs : List Bool) (l : List Int) {i : Nat} (h : i < bs.length) : (flipped bs l).getD i false = (bs.getD i false != has l i) := by
  rw [List.getD_eq_getElem?_getD, flipped_at bs l h]; rfl
theorem flipped_out (bs : List Bool) (l : List Int) {i : Nat} (h : bs.length ≤ i) : (flipped bs l).getD i false = false := by
  rw [List.getD_eq_getElem?_getD, List.getElem?_eq_none (by rw [flipped_len]; exact h)]; rfl
theorem flipped_nil (bs : List Bool) : flipped bs [] = bs := by
  apply List.ext_getElem?
  intro i
  by_cases h : i < bs.length
  · rw [flipped_at bs [] h]; simp [has, h]
  · rw [List.getElem?_eq_none (by rw [flipped_len]; omega), List.getElem?_eq_none (by omega)]
theorem flipped_next (bs : List Bool) {l : List Int} {j : Nat} (hj : j < l.length) (h0 : 0 ≤ l[j]) : (flipped bs (l.take j)).set (l[j]).toNat (!(bs.getD (l[j]).toNat false)) = flipped bs (l.take (j + 1)) := by
  apply List.ext_getElem?
  intro i
  rw [List.getElem?_set, flipped_len]
  by_cases hi : i < bs.length
  · rw [flipped_at bs _ hi, flipped_at bs _ hi, List.take_succ_eq_append_getElem hj, has_snoc]
    by_cases he : (l[j]).toNat = i
    · have hx : (l[j] == (i : Int)) = true := by simp; omega
      rw [if_pos he, if_pos (by omega), he, hx]
      cases has (l.take j) i <;> cases bs.getD i false <;> rfl
    · have hx : (l[j] == (i : Int)) = false := by simp; omega
      rw [if_neg he, hx, Bool.or_false]
  · rw [List.getElem?_eq_none (l := flipped bs (l.take (j + 1))) (by rw [flipped_len]; omega)]
    by_cases he : (l[j]).toNat = i
    · rw [if_pos he, if_neg (by omega)]
    · rw [if_neg he, List.getElem?_eq_none (by rw [flipped_len]; omega)]
theorem has_out {l : List Int} {n i : Nat} (hs : StepsTo l (n - 1) l.length) (h : n ≤ i) : has l i = false := by
  cases hh : has l i
  · rfl
  · have := (mem_steps hs (has_iff.1 hh)).2
    omega

/-- Places and torch behind all trips. -/
def after : List Bool → Bool → List (List Int) → List Bool × Bool
  | bs, t, [] => (bs, t)
  | bs, t, l :: ls => after (flipped bs l) (!t) ls
theorem after_snoc (l : List Int) : ∀ (ls : List (List Int)) (bs : List Bool) (t : Bool), after bs t (ls ++ [l]) = (flipped (after bs t ls).1 l, !(after bs t ls).2)
  | [], _, _ => rfl
  | _ :: ls, _, _ => after_snoc l ls _ _
theorem after_len : ∀ (ls : List (List Int)) (bs : List Bool) (t : Bool), (after bs t ls).1.length = bs.length
  | [], _, _ => rfl
  | l :: ls, bs, _ => (after_len ls _ _).trans (flipped_len bs l)
/-- How many trips can be made. -/
noncomputable def made (n : Nat) (s : Int) : List Bool → Bool → List (List Int) → Nat
  | _, _, [] => 0
  | bs, t, l :: ls => if canGo n s bs t l then made n s (flipped bs l) (!t) ls + 1 else 0
theorem made_le (n : Nat) (s : Int) : ∀ (ls : List (List Int)) (bs : List Bool) (t : Bool), made n s bs t ls ≤ ls.length
  | [], _, _ => Nat.le_refl _
  | l :: ls, bs, t => by
    rw [made]
    split
    · have := made_le n s ls (flipped bs l) (!t); simp; omega
    · simp
/-- The first k trips can be made; the rest is still to be looked at. -/
def MadeTo (n : Nat) (s : Int) (bs : List Bool) (t : Bool) (ls : List (List Int)) (k : Nat) : Prop :=
  made n s bs t ls = k + made n s (after bs t (ls.take k)).1 (after bs t (ls.take k)).2 (ls.drop k)
theorem MadeTo.start (n : Nat) (s : Int) (bs : List Bool) (t : Bool) (ls : List (List Int)) : MadeTo n s bs t ls 0 := by simp [MadeTo, after]
theorem MadeTo.next {n : Nat} {s : Int} {bs : List Bool} {t : Bool} {ls : List (List Int)} {k : Nat} (h : MadeTo n s bs t ls k) (hk : k < ls.length) (hc : canGo n s (after bs t (ls.take k)).1 (after bs t (ls.take k)).2 ls[k] = true) : MadeTo n s bs t ls (k + 1) := by
  unfold MadeTo at h ⊢
  rw [h, List.drop_eq_getElem_cons hk, made, if_pos hc, List.take_succ_eq_append_getElem hk, after_snoc]
  dsimp only
  omega
theorem MadeTo.stop {n : Nat} {s : Int} {bs : List Bool} {t : Bool} {ls : List (List Int)} {k : Nat} (h : MadeTo n s bs t ls k) (hk : k < ls.length) (hc : canGo n s (after bs t (ls.take k)).1 (after bs t (ls.take k)).2 ls[k] = false) : made n s bs t ls = k := by
  unfold MadeTo at h
  rw [h, List.drop_eq_getElem_cons hk, made, if_neg (by simp [hc])]
  omega
theorem MadeTo.done {n : Nat} {s : Int} {bs : List Bool} {t : Bool} {ls : List (List Int)} {k : Nat} (h : MadeTo n s bs t ls k) (hk : ls.length ≤ k) : made n s bs t ls = k := by
  unfold MadeTo at h
  rw [h, List.drop_eq_nil_of_le hk, made]
  omega
/-- Places and torch behind the trips that can be made. -/
noncomputable def ended (n : Nat) (s : Int) (bs : List Bool) (t : Bool) (ls : List (List Int)) : List Bool × Bool := after bs t (ls.take (made n s bs t ls))
theorem ended_len (n : Nat) (s : Int) (bs : List Bool) (t : Bool) (ls : List (List Int)) : (ended n s bs t ls).1.length = bs.length := after_len _ _ _
theorem can_steps {n : Nat} {s : Int} {bs : List Bool} {t : Bool} {l : List Int} (h : canGo n s bs t l = true) : StepsTo l (n - 1) l.length := by
  simp only [canGo, Bool.and_eq_true] at h
  exact trip_steps h.1
theorem trip_short {n : Nat} {s : Int} {l : List Int} (h : isTrip n s l = true) : (l.length : Int) ≤ s := by
  simp only [isTrip, Bool.and_eq_true] at h
  exact (within_iff.1 h.1).2
end Go.Proofs.YtedkanncdkofaaaDoor

namespace Go.Proofs.YtedkanncdkofaaaDoor
open Go.RowKit

/-- One cell of the place while the first k people are looked at. -/
def crossAt (bs : List Bool) (l : List Int) (k i : Nat) : Bool := if i < k then bs.getD i false != has l i else bs.getD i false
def crossTo (bs : List Bool) (t : Bool) (l : List Int) (k : Nat) : Array Value := #[.bool (crossAt bs l k 0), .bool (crossAt bs l k 1), .bool (crossAt bs l k 2), .bool (crossAt bs l k 3), .bool (crossAt bs l k 4), .bool (crossAt bs l k 5), .bool (crossAt bs l k 6), .bool (crossAt bs l k 7), .bool t]
theorem crossAt_here (bs : List Bool) (l : List Int) (k : Nat) : crossAt bs l k k = bs.getD k false := by simp [crossAt]
theorem cross_get (bs : List Bool) (t : Bool) (l : List Int) {k : Nat} (h : k < 8) : (crossTo bs t l k)[k]? = some (.bool (bs.getD k false)) := by
  rw [← crossAt_here bs l k]
  match k, h with
  | 0, _ => rfl
  | 1, _ => rfl
  | 2, _ => rfl
  | 3, _ => rfl
  | 4, _ => rfl
  | 5, _ => rfl
  | 6, _ => rfl
  | 7, _ => rfl
theorem cross_skip (bs : List Bool) (t : Bool) {l : List Int} {k : Nat} (h : has l k = false) : crossTo bs t l (k + 1) = crossTo bs t l k := by
  have hh : ∀ i, crossAt bs l (k + 1) i = crossAt bs l k i := by
    intro i
    unfold crossAt
    by_cases h1 : i < k
    · rw [if_pos h1, if_pos (by omega)]
    · by_cases h2 : i = k
      · subst h2; rw [if_pos (by omega), if_neg h1, h]; cases bs.getD i false <;> rfl
      · rw [if_neg h1, if_neg (by omega)]
  simp only [crossTo, hh]
theorem cross_turn (bs : List Bool) (t : Bool) {l : List Int} {k : Nat} (hk : k < 8) (h : has l k = true) : (crossTo bs t l k).setIfInBounds k (.bool (!(bs.getD k false))) = crossTo bs t l (k + 1) := by
  have h1 : crossAt bs l (k + 1) k = !(bs.getD k false) := by
    unfold crossAt; rw [if_pos (by omega), h]; cases bs.getD k false <;> rfl
  have hh : ∀ i, i ≠ k → crossAt bs l (k + 1) i = crossAt bs l k i := by
    intro i hi
    unfold crossAt
    by_cases h1 : i < k
    · rw [if_pos h1, if_pos (by omega)]
    · rw [if_neg h1, if_neg (by omega)]
  rw [← h1]
  unfold crossTo
  match k, hk with
  | 0, _ => simp [hh]
  | 1, _ => simp [hh]
  | 2, _ => simp [hh]
  | 3, _ => simp [hh]
  | 4, _ => simp [hh]
  | 5, _ => simp [hh]
  | 6, _ => simp [hh]
  | 7, _ => simp [hh]
theorem cross_start (bs : List Bool) (t : Bool) (l : List Int) : placeCells bs t = crossTo bs t l 0 := by simp [placeCells, crossTo, crossAt]
theorem cross_end {bs : List Bool} {t : Bool} {l : List Int} (h : ∀ i, bs.length ≤ i → has l i = false) : (crossTo bs t l 8).setIfInBounds 8 (.bool (!t)) = placeCells (flipped bs l) (!t) := by
  have hh : ∀ i, i < 8 → crossAt bs l 8 i = (flipped bs l).getD i false := by
    intro i hi
    rw [crossAt, if_pos hi]
    by_cases h1 : i < bs.length
    · rw [flipped_get bs l h1]
    · rw [flipped_out bs l (by omega), h i (by omega), List.getD_eq_getElem?_getD, List.getElem?_eq_none (by omega)]; rfl
  simp only [crossTo, placeCells, hh 0 (by omega), hh 1 (by omega), hh 2 (by omega), hh 3 (by omega), hh 4 (by omega), hh 5 (by omega), hh 6 (by omega), hh 7 (by omega)]
  rfl
theorem cross_one (bs : List Bool) (t : Bool) (l : List Int) (k : Nat) : (crossTo bs t l k).all (·.oneCell') = true := by simp [crossTo, Value.oneCell']

end Go.Proofs.YtedkanncdkofaaaDoor

namespace Go.Proofs.YtedkanncdkofaaaDoor
open Go.RowKit

/-- A danger of two of so many things. -/
def IsDg (k : Int) (d : List Int) : Prop := d.length = 2 ∧ 0 ≤ d.getD 0 0 ∧ d.getD 0 0 < d.getD 1 0 ∧ d.getD 1 0 < k
/-- A danger comes before another one. -/
def BefD (a b : List Int) : Prop := a.getD 0 0 < b.getD 0 0 ∨ (a.getD 0 0 = b.getD 0 0 ∧ a.getD 1 0 < b.getD 1 0)
def DgStep (k : Int) (ds : List (List Int)) (j : Nat) : Prop := IsDg k (ds.getD j []) ∧ (j = 0 ∨ BefD (ds.getD (j - 1) []) (ds.getD j []))
def DgTo (k : Int) (ds : List (List Int)) (j : Nat) : Prop := ∀ i, i < j → DgStep k ds i
noncomputable def keepOk (k s : Int) (ds : List (List Int)) : Bool := by
  classical
  exact decide ((0 ≤ k ∧ k ≤ 8 ∧ 0 ≤ s ∧ s ≤ 8) ∧ DgTo k ds ds.length)
theorem keepOk_iff {k s : Int} {ds : List (List Int)} : keepOk k s ds = true ↔ (0 ≤ k ∧ k ≤ 8 ∧ 0 ≤ s ∧ s ≤ 8) ∧ DgTo k ds ds.length := by
  classical
  simp only [keepOk, decide_eq_true_eq]
theorem keepOk_out {k s : Int} {ds : List (List Int)} (h : ¬ (0 ≤ k ∧ k ≤ 8 ∧ 0 ≤ s ∧ s ≤ 8)) : keepOk k s ds = false := by
  cases e : keepOk k s ds
  · rfl
  · exact absurd (keepOk_iff.1 e).1 h
theorem keepOk_no {k s : Int} {ds : List (List Int)} {j : Nat} (hj : j < ds.length) (h : ¬ DgStep k ds j) : keepOk k s ds = false := by
  cases e : keepOk k s ds
  · rfl
  · exact absurd ((keepOk_iff.1 e).2 j hj) h
theorem keepOk_yes {k s : Int} {ds : List (List Int)} {j : Nat} (h : 0 ≤ k ∧ k ≤ 8 ∧ 0 ≤ s ∧ s ≤ 8) (hs : DgTo k ds j) (hj : ds.length ≤ j) : keepOk k s ds = true :=
  keepOk_iff.2 ⟨h, fun i hi => hs i (by omega)⟩
theorem DgTo.start (k : Int) (ds : List (List Int)) : DgTo k ds 0 := fun _ h => absurd h (by omega)
theorem DgTo.next {k : Int} {ds : List (List Int)} {j : Nat} (h : DgTo k ds j) (hs : DgStep k ds j) : DgTo k ds (j + 1) := fun i hi =>
  (Nat.lt_succ_iff_lt_or_eq.1 hi).elim (h i) (fun e => e ▸ hs)
theorem rising_dg {k : Int} {d : List Int} (hl : d.length = 2) : rising d (k - 1) = true ↔ IsDg k d := by
  constructor
  · intro h
    have hs := rising_steps h
    have h0 := hs 0 (by omega)
    have h1 := hs 1 (by omega)
    obtain ⟨a0, a1, -⟩ := h0
    obtain ⟨b0, b1, b2⟩ := h1
    refine ⟨hl, a0, ?_, by omega⟩
    rcases b2 with b2 | b2
    · cases b2
    · exact b2
  · rintro ⟨-, h0, h1, h2⟩
    refine rising_yes (k := 2) (fun j hj => ?_) (by omega)
    have : j = 0 ∨ j = 1 := by omega
    rcases this with rfl | rfl
    · exact ⟨h0, by omega, .inl rfl⟩
    · exact ⟨by omega, by omega, .inr h1⟩
theorem dg_at {k s : Int} {ds : List (List Int)} (h : keepOk k s ds = true) {j : Nat} (hj : j < ds.length) : IsDg k ds[j] := by
  have := ((keepOk_iff.1 h).2 j hj).1
  simpa [List.getD_eq_getElem?_getD, List.getElem?_eq_getElem hj] using this
/-- Both things of a danger are where the keeper is not. -/
def leftBy (bs : List Bool) (t : Bool) (d : List Int) : Bool := (bs.getD (d.getD 0 0).toNat false != t) && (bs.getD (d.getD 1 0).toNat false != t)
/-- The dangers in a bank. -/
def nowOf (bs : List Bool) (t : Bool) (ds : List (List Int)) : List (List Int) := ds.filter (leftBy bs t)
theorem nowOf_len (bs : List Bool) (t : Bool) (ds : List (List Int)) : (nowOf bs t ds).length ≤ ds.length := List.length_filter_le _ _
/-- A keep and a bank of it. -/
noncomputable def asked (k s : Int) (ds : List (List Int)) (bs : List Bool) : Bool := keepOk k s ds && decide ((bs.length : Int) = k)
theorem asked_parts {k s : Int} {ds : List (List Int)} {bs : List Bool} (h : asked k s ds bs = true) : keepOk k s ds = true ∧ (bs.length : Int) = k := by
  simpa [asked] using h
end Go.Proofs.YtedkanncdkofaaaDoor

namespace Go.Proofs.YtedkanncdkofaaaDoor
open Go.RowKit

/-- Does a danger come before another one? -/
noncomputable def befB (a b : List Int) : Bool := by
  classical
  exact decide (BefD a b)
theorem befB_yes {a b : List Int} (h : BefD a b) : befB a b = true := by classical simpa [befB] using h
theorem befB_no {a b : List Int} (h : ¬ BefD a b) : befB a b = false := by classical simpa [befB] using h

/-- The two numbers of a list, as they lie. -/
theorem two_at {w : World} {A : Option Addr} {d : List Int} (h : Holds w A (nums d)) (hl : d.length = 2) : ∃ b o, A = some ⟨b, o, none⟩ ∧ b < w.heap.size ∧ w.cell? ⟨b, o, none⟩ = some (.int .i64 (d.getD 0 0)) ∧ w.cell? ⟨b, o + 1, none⟩ = some (.int .i64 (d.getD 1 0)) := by
  obtain ⟨x, y, rfl⟩ : ∃ x y, d = [x, y] := by
    match d, hl with
    | [x, y], _ => exact ⟨x, y, rfl⟩
  rcases h with h | ⟨b, o, hA, hb, hc⟩
  · cases h
  · exact ⟨b, o, hA, hb, hc 0 _ rfl, hc 1 _ rfl⟩

set_option maxHeartbeats 1600000 in
theorem keBefore_any (A B : Option Addr) (n c m d : Nat) (x y : List Int) (w : World) (hA : Holds w A (nums x)) (hB : Holds w B (nums y)) (hx : x.length = 2) (hy : y.length = 2) (hn : n = 2) (hm : m = 2) :
    Calls Tryd.prog 124 #[.slice A n c, .slice B m d] w fun e w' => e = .returned (.bool (befB x y)) ∧ ∃ k, w' = w.drewN k := by
  subst hn hm
  obtain ⟨b, o, rfl, hb, a0, a1⟩ := two_at hA hx
  obtain ⟨b', o', rfl, hb', c0, c1⟩ := two_at hB hy
  have HY : Hid (BefD x y ↔ (x.getD 0 0 < y.getD 0 0 ∨ (x.getD 0 0 = y.getD 0 0 ∧ x.getD 1 0 < y.getD 1 0))) := Iff.rfl
  obtain ⟨p, hp⟩ : ∃ p : Prop, p = BefD x y := ⟨_, rfl⟩
  obtain ⟨q, hq⟩ : ∃ q : Bool, q = befB x y := ⟨_, rfl⟩
  have HYES : Hid (BefD x y → q = true) := fun h => by rw [hq]; exact befB_yes h
  have HNO : Hid (¬ BefD x y → q = false) := fun h => by rw [hq]; exact befB_no h
  rw [← hq]
  clear hp hq hA hB hx hy
  generalize x.getD 0 0 = x0 at *
  generalize y.getD 0 0 = y0 at *
  generalize x.getD 1 0 = x1 at *
  generalize y.getD 1 0 = y1 at *
  by_cases h1 : x0 < y0
  · have HQ : Hid (q = true) := HYES.out (HY.out.2 (by omega))
    have d1 : decide (x0 < y0) = true := by simp [h1]
    clear HYES HNO HY
    go_enter Tryd.func124, Tryd.ntmps124
    go_wp2
    go_quiet (fail)
    go_wp2
    go_ret
    exact ⟨ret_of (by rw [HQ.out]; first | rfl | simp), _, rfl⟩
  · by_cases h2 : x0 = y0
    · by_cases h3 : x1 < y1
      · have HQ : Hid (q = true) := HYES.out (HY.out.2 (by omega))
        have d1 : decide (x0 < y0) = false := by simp; omega
        have d2 : (x0 == y0) = true := by simp [h2]
        have d3 : decide (x1 < y1) = true := by simp [h3]
        clear HYES HNO HY
        go_enter Tryd.func124, Tryd.ntmps124
        go_wp2
        go_quiet (fail)
        go_wp2
        go_ret
        exact ⟨ret_of (by rw [HQ.out]; first | rfl | simp), _, rfl⟩
      · have HQ : Hid (q = false) := HNO.out (fun h => by have := HY.out.1 h; omega)
        have d1 : decide (x0 < y0) = false := by simp; omega
        have d2 : (x0 == y0) = true := by simp [h2]
        have d3 : decide (x1 < y1) = false := by simp; omega
        clear HYES HNO HY
        go_enter Tryd.func124, Tryd.ntmps124
        go_wp2
        go_quiet (fail)
        go_wp2
        go_ret
        exact ⟨ret_of (by rw [HQ.out]; first | rfl | simp), _, rfl⟩
    · have HQ : Hid (q = false) := HNO.out (fun h => by have := HY.out.1 h; omega)
      have d1 : decide (x0 < y0) = false := by simp; omega
      have d2 : (x0 == y0) = false := by simp [h2]
      clear HYES HNO HY
      go_enter Tryd.func124, Tryd.ntmps124
      go_wp2
      go_quiet (fail)
      go_wp2
      go_ret
      exact ⟨ret_of (by rw [HQ.out]; first | rfl | simp), _, rfl⟩

/-- A row of a grid, told at its place. -/
theorem grid_row {w : World} {A : Option Addr} {rs : List RowV} (h : Grid w A rs) {k : Nat} (hk : k < rs.length) : ∃ b o, A = some ⟨b, o, none⟩ ∧ b < w.heap.size ∧ w.cell? ⟨b, o + k, none⟩ = some (.slice rs[k].A rs[k].n rs[k].c) ∧ Holds w rs[k].A (nums rs[k].xs) ∧ rs[k].xs.length = rs[k].n ∧ rs[k].n ≤ 9223372036854775807 := by
  obtain ⟨b, o, rfl, hb, hc⟩ := h.1.look (k := k) (by rw [rowVals_len]; exact hk)
  have hok := h.2 rs[k] (List.getElem_mem hk)
  refine ⟨b, o, rfl, hb, ?_, hok.1, hok.2.1, hok.2.2⟩
  rw [hc]
  simp [rowVals, RowV.val]
theorem rows_at (rs : List RowV) {k : Nat} (hk : k < rs.length) : (rowNums rs).getD k [] = rs[k].xs := by
  simp [rowNums, hk]

set_option maxHeartbeats 3200000 in
set_option maxRecDepth 100000 in
theorem keGood_any (k s : Int) (A : Option Addr) (n c : Nat) (rs : List RowV) (w : World) (hA : Grid w A rs) (hx : rs.length = n) (hn : n ≤ 1048576) :
    Calls Tryd.prog 73 #[.agg #[.int .i64 k, .slice A n c, .int .i64 s]] w fun e w' => e = .returned (.bool (keepOk k s (rowNums rs))) ∧ Below w.heap.size w w' := by
  subst hx
  have HLS := Lib.hid (rowNums_len rs)
  have h0 := Lib.hid (Whole.fresh w 41 #[.int .i64 k, .slice A rs.length c, .int .i64 s])
  have hb1 := Lib.hid (below1 w (.cells #[.int .i64 k, .slice A rs.length c, .int .i64 s] 41))
  have HG := Lib.hid hA
  obtain ⟨f0, f1, f2⟩ := h0.out.cells3
  obtain ⟨q, hq⟩ : ∃ q : Bool, q = keepOk k s (rowNums rs) := ⟨_, rfl⟩
  rw [← hq]
  have HQ := Lib.hid hq
  clear hq hA
  cases hk : within k 0 8
  · have HQ2 : Hid (q = false) := by
      show _ = _
      rw [HQ.out]
      exact keepOk_out fun h => by rw [within_yes h.1 h.2.1] at hk; cases hk
    have HK := Lib.hid hk
    clear HQ hk
    go_enter Tryd.func73, Tryd.ntmps73
    go_wp2_with (go_at_call 110; refine (l1In_any _ _ _ _).mono ?_; rintro e w' ⟨rfl, rfl⟩; rw [HK.out])
    go_ret
    exact ⟨ret_of (by rw [HQ2.out]; rfl), hb1.out⟩
  · cases hs : within s 0 8
    · have HQ2 : Hid (q = false) := by
        show _ = _
        rw [HQ.out]
        exact keepOk_out fun h => by rw [within_yes h.2.2.1 h.2.2.2] at hs; cases hs
      have HK := Lib.hid hk
      have HS := Lib.hid hs
      clear HQ hk hs
      go_enter Tryd.func73, Tryd.ntmps73
      go_wp2_with (go_at_call 110; refine (l1In_any _ _ _ _).mono ?_; rintro e w' ⟨rfl, rfl⟩; first | rw [HK.out] | rw [HS.out])
      go_ret
      exact ⟨ret_of (by rw [HQ2.out]; rfl), hb1.out⟩
    · have hk2 := within_iff.1 hk
      have hs2 := within_iff.1 hs
      have HK := Lib.hid hk
      have HS := Lib.hid hs
      have HKS : Hid (0 ≤ k ∧ k ≤ 8 ∧ 0 ≤ s ∧ s ≤ 8) := ⟨hk2.1, hk2.2, hs2.1, hs2.2⟩
      have hkw : IntKind.i64.wrap (k - 1) = k - 1 := IntWalk.i64_in _ (by omega)
      clear hk hs
      go_enter Tryd.func73, Tryd.ntmps73
      go_wp2_with (go_at_call 110; refine (l1In_any _ _ _ _).mono ?_; rintro e w' ⟨rfl, rfl⟩; first | rw [HK.out] | rw [HS.out])
      go_loopw [18] (fun i wr => ∃ j : Nat, j ≤ rs.length ∧ i = .int .i64 j ∧ DgTo k (rowNums rs) j ∧ Whole wr w.heap.size 41 #[.int .i64 k, .slice A rs.length c, .int .i64 s] ∧ Below w.heap.size w wr) (fun i _ => rs.length - (intOf i).toNat)
      case atStart => exact ⟨0, Nat.zero_le _, rfl, DgTo.start _ _, h0.out, hb1.out⟩
      case round =>
        clear f0 f1 f2 h0 hb1
        obtain ⟨j, hj, rfl, hdt, h0, hb⟩ := hrel
        by_cases hlt : j < rs.length
        · have hg := HG.out.below hb
          obtain ⟨b, o, rfl, hbl, hcell, hrow, hrl, hrn⟩ := grid_row hg hlt
          have HAT := Lib.hid (rows_at rs hlt)
          obtain ⟨f0, f1, f2⟩ := h0.cells3
          obtain ⟨R, hR⟩ : ∃ R, R = rs[j] := ⟨_, rfl⟩
          rw [← hR] at hcell hrow hrl hrn HAT
          have HD := Lib.hid hdt
          have H0 := Lib.hid h0
          have HB := Lib.hid hb
          have HRW := Lib.hid hrow
          have HJ : Hid (j < (rowNums rs).length) := by show _ < _; rw [HLS.out]; exact hlt
          have HRL := Lib.hid hrl
          have HRN := Lib.hid hrn
          clear hg hdt h0 hb hrow hR hrl
          obtain ⟨rA, rn, rc, rxs⟩ := R
          replace hcell : World.cell? wr ⟨b, o + j, none⟩ = some (.slice rA rn rc) := hcell
          replace hrn : rn ≤ 9223372036854775807 := hrn
          have HRL2 : Hid (rxs.length = rn) := HRL.out
          have HRW2 : Hid (Holds wr rA (nums rxs)) := HRW.out
          have HAT2 : Hid ((rowNums rs).getD j [] = rxs) := HAT.out
          clear HRL HRW HAT HRN
          by_cases h2 : rn = 2
          · subst h2
            have hne : ((2 : Int) != 2) = false := by decide
            cases hr : rising rxs (k - 1)
            · have HN : Hid (q = false) := by
                show _ = _
                rw [HQ.out]
                refine keepOk_no HJ.out fun h => ?_
                have h1 := h.1
                rw [HAT2.out] at h1
                rw [(rising_dg HRL2.out).2 h1] at hr
                cases hr
              have HR := Lib.hid hr
              clear hr HQ
              go_wp2_with (go_at_call 123; refine (l1Rising_any _ _ _ rxs (k - 1) _ HRW2.out HRL2.out (by omega)).mono ?_; rintro e w' ⟨rfl, rfl⟩; rw [HR.out])
              go_ret
              exact ⟨ret_of (by rw [HN.out]; rfl), HB.out⟩
            · have HDG := Lib.hid ((rising_dg HRL2.out).1 hr)
              have HR := Lib.hid hr
              clear hr
              by_cases hj0 : j = 0
              · subst hj0
                have HST : Hid (DgTo k (rowNums rs) (0 + 1)) := HD.out.next ⟨by rw [HAT2.out]; exact HDG.out, .inl rfl⟩
                simp only [Nat.add_zero] at hcell
                go_wp2_with (go_at_call 123; refine (l1Rising_any _ _ _ rxs (k - 1) _ HRW2.out HRL2.out (by omega)).mono ?_; rintro e w' ⟨rfl, rfl⟩; rw [HR.out])
                go_roundw
                case rel => exact ⟨1, by omega, by go_num, HST.out, H0.out, HB.out⟩
                case measure => simp [intOf]; omega
              · have hlt1 : j - 1 < rs.length := by omega
                obtain ⟨b', o', hA', hbl', hcell', hrow', hrl', hrn'⟩ := grid_row (HG.out.below HB.out) hlt1
                simp only [Option.some.injEq, Addr.mk.injEq] at hA'
                obtain ⟨rfl, rfl, -⟩ := hA'
                have HDG' : Hid (IsDg k rs[j - 1].xs) := by
                  have h := (HD.out (j - 1) (by omega)).1
                  rw [rows_at rs hlt1] at h
                  exact h
                have HAT' := Lib.hid (rows_at rs hlt1)
                obtain ⟨R', hR'⟩ : ∃ R, R = rs[j - 1] := ⟨_, rfl⟩
                rw [← hR'] at hcell' hrow' hrl' hrn' HDG' HAT'
                obtain ⟨rA', rn', rc', rxs'⟩ := R'
                replace hcell' : World.cell? wr ⟨b, o + (j - 1), none⟩ = some (.slice rA' rn' rc') := hcell'
                have HRL' : Hid (rxs'.length = 2) := HDG'.out.1
                obtain rfl : rn' = 2 := by have h1 : rxs'.length = rn' := hrl'; have := HRL'.out; omega
                have HRW' : Hid (Holds wr rA' (nums rxs')) := hrow'
                have HAT3 : Hid ((rowNums rs).getD (j - 1) [] = rxs') := HAT'.out
                clear hrow' hrl' hrn' hR' HDG' HAT'
                have hkp : decide ((0 : Int) < (j : Int)) = true := by simp; omega
                have hkp2 : (0 : Int) < (j : Int) := by omega
                have htn : ((j : Int) - 1).toNat = j - 1 := by omega
                have hjw : IntKind.i64.wrap ((j : Int) - 1) = (j : Int) - 1 := IntWalk.i64_in _ (by omega)
                have hji : (0 : Int) ≤ (j : Int) - 1 := by omega
                have hjl : (j : Int) - 1 < (rs.length : Int) := by omega
                cases hbf : befB rxs' rxs
                · have HN : Hid (q = false) := by
                    show _ = _
                    rw [HQ.out]
                    refine keepOk_no HJ.out fun h => ?_
                    rcases h.2 with h1 | h1
                    · exact hj0 h1
                    · rw [HAT2.out, HAT3.out] at h1
                      rw [befB_yes h1] at hbf
                      cases hbf
                  have HF := Lib.hid hbf
                  clear hbf HQ
                  go_wp2_with (first | (go_at_call 123; refine (l1Rising_any _ _ _ rxs (k - 1) _ HRW2.out HRL2.out (by omega)).mono ?_; rintro e w' ⟨rfl, rfl⟩; rw [HR.out]) | (go_at_call 124; refine (keBefore_any _ _ _ _ _ _ rxs' rxs _ HRW'.out HRW2.out HRL'.out HRL2.out rfl rfl).mono ?_; rintro e w' ⟨rfl, kk, rfl⟩; rw [HF.out]))
                  go_ret
                  exact ⟨ret_of (by rw [HN.out]; rfl), below_draws HB.out kk⟩
                · have HST : Hid (DgTo k (rowNums rs) (j + 1)) := HD.out.next ⟨by rw [HAT2.out]; exact HDG.out, .inr (by
                    rw [HAT2.out, HAT3.out]
                    exact Classical.byContradiction fun h => by rw [befB_no h] at hbf; cases hbf)⟩
                  have HF := Lib.hid hbf
                  clear hbf
                  go_wp2_with (first | (go_at_call 123; refine (l1Rising_any _ _ _ rxs (k - 1) _ HRW2.out HRL2.out (by omega)).mono ?_; rintro e w' ⟨rfl, rfl⟩; rw [HR.out]) | (go_at_call 124; refine (keBefore_any _ _ _ _ _ _ rxs' rxs _ HRW'.out HRW2.out HRL'.out HRL2.out rfl rfl).mono ?_; rintro e w' ⟨rfl, kk, rfl⟩; rw [HF.out]))
                  go_roundw
                  case rel => exact ⟨j + 1, by omega, by go_num, HST.out, H0.out.below (below_draws (Below.refl _ _) kk), below_draws HB.out kk⟩
                  case measure => simp [intOf]; omega
          · have hne : ((rn : Int) != 2) = true := by simp; omega
            have HN : Hid (q = false) := by
              show _ = _
              rw [HQ.out]
              refine keepOk_no HJ.out fun h => ?_
              have h1 := h.1.1
              rw [HAT2.out, HRL2.out] at h1
              exact h2 h1
            have h2' := Lib.hid h2
            clear HQ h2
            go_wp2
            go_ret
            exact ⟨ret_of (by rw [HN.out]; rfl), HB.out⟩
        · have HN : Hid (q = true) := by
            show _ = _
            rw [HQ.out]
            exact keepOk_yes HKS.out hdt (by rw [HLS.out]; omega)
          clear HQ
          go_wp2
          go_ret
          exact ⟨ret_of (by rw [HN.out]; rfl), hb⟩

end Go.Proofs.YtedkanncdkofaaaDoor

namespace Go.Proofs.YtedkanncdkofaaaDoor
open Go.RowKit

set_option maxHeartbeats 400000 in
theorem isNaNk_any (x : Int) (w : World) : Calls Tryd.prog 163 #[.int .i64 x] w fun e w' => e = .returned (.bool false) ∧ w = w' := by
  go_enter Tryd.func163, Tryd.ntmps163
  go_wp2
  go_ret
  exact ⟨by simp, rfl⟩
set_option maxHeartbeats 800000 in
theorem comparek_any (x y : Int) (w : World) : Calls Tryd.prog 141 #[.int .i64 x, .int .i64 y] w fun e w' => e = .returned (.int .i64 (Go.Lib.compareInt x y)) ∧ w = w' := by
  by_cases h : x < y
  · have HC : Hid (Go.Lib.compareInt x y = -1) := if_pos h
    go_enter Tryd.func141, Tryd.ntmps141
    go_wp2_with (go_at_call 163; refine (isNaNk_any _ _).mono ?_; rintro e w' ⟨rfl, rfl⟩)
    go_ret
    exact ⟨ret_of (by rw [HC.out]; rfl), rfl⟩
  · by_cases h2 : y < x
    · have HC : Hid (Go.Lib.compareInt x y = 1) := by show _ = _; rw [Go.Lib.compareInt, if_neg h, if_pos h2]
      go_enter Tryd.func141, Tryd.ntmps141
      go_wp2_with (go_at_call 163; refine (isNaNk_any _ _).mono ?_; rintro e w' ⟨rfl, rfl⟩)
      go_ret
      exact ⟨ret_of (by rw [HC.out]; rfl), rfl⟩
    · have HC : Hid (Go.Lib.compareInt x y = 0) := by show _ = _; rw [Go.Lib.compareInt, if_neg h, if_neg h2]
      go_enter Tryd.func141, Tryd.ntmps141
      go_wp2_with (go_at_call 163; refine (isNaNk_any _ _).mono ?_; rintro e w' ⟨rfl, rfl⟩)
      go_ret
      exact ⟨ret_of (by rw [HC.out]; rfl), rfl⟩

/-- Is a list a danger? -/
noncomputable def dgB (k : Int) (d : List Int) : Bool := by
  classical
  exact decide (IsDg k d)
theorem dgB_yes {k : Int} {d : List Int} (h : IsDg k d) : dgB k d = true := by classical simpa [dgB] using h
theorem dgB_no {k : Int} {d : List Int} (h : ¬ IsDg k d) : dgB k d = false := by classical simpa [dgB] using h

set_option maxHeartbeats 1600000 in
theorem isDanger_any (A : Option Addr) (n c : Nat) (d : List Int) (k : Int) (w : World) (hA : Holds w A (nums d)) (hx : d.length = n) (hn : n ≤ 9223372036854775807) :
    Calls Tryd.prog 125 #[.slice A n c, .int .i64 k] w fun e w' => e = .returned (.bool (dgB k d)) ∧ ∃ j, w' = w.drewN j := by
  by_cases h2 : n = 2
  · subst h2
    obtain ⟨b, o, rfl, hb, a0, a1⟩ := two_at hA hx
    have HY : Hid (IsDg k d ↔ (0 ≤ d.getD 0 0 ∧ d.getD 0 0 < d.getD 1 0 ∧ d.getD 1 0 < k)) := ⟨fun h => h.2, fun h => ⟨hx, h⟩⟩
    obtain ⟨q, hq⟩ : ∃ q : Bool, q = dgB k d := ⟨_, rfl⟩
    have HYES : Hid (IsDg k d → q = true) := fun h => by rw [hq]; exact dgB_yes h
    have HNO : Hid (¬ IsDg k d → q = false) := fun h => by rw [hq]; exact dgB_no h
    rw [← hq]
    clear hq hA hx
    generalize d.getD 0 0 = x0 at *
    generalize d.getD 1 0 = x1 at *
    have hl : (((2 : Nat) : Int) == 2) = true := rfl
    by_cases h0 : 0 ≤ x0
    · by_cases h1 : x0 < x1
      · by_cases h3 : x1 < k
        · have HQ : Hid (q = true) := HYES.out (HY.out.2 (by omega))
          have d0 : decide (0 ≤ x0) = true := by simp [h0]
          have d1 : decide (x0 < x1) = true := by simp [h1]
          have d3 : decide (x1 < k) = true := by simp [h3]
          clear HYES HNO HY
          go_enter Tryd.func125, Tryd.ntmps125
          go_wp2
          go_quiet (fail)
          go_wp2
          go_ret
          exact ⟨ret_of (by rw [HQ.out]; first | rfl | simp), _, rfl⟩
        · have HQ : Hid (q = false) := HNO.out (fun h => by have := HY.out.1 h; omega)
          have d0 : decide (0 ≤ x0) = true := by simp [h0]
          have d1 : decide (x0 < x1) = true := by simp [h1]
          have d3 : decide (x1 < k) = false := by simp; omega
          clear HYES HNO HY
          go_enter Tryd.func125, Tryd.ntmps125
          go_wp2
          go_quiet (fail)
          go_wp2
          go_ret
          exact ⟨ret_of (by rw [HQ.out]; first | rfl | simp), _, rfl⟩
      · have HQ : Hid (q = false) := HNO.out (fun h => by have := HY.out.1 h; omega)
        have d0 : decide (0 ≤ x0) = true := by simp [h0]
        have d1 : decide (x0 < x1) = false := by simp; omega
        clear HYES HNO HY
        go_enter Tryd.func125, Tryd.ntmps125
        go_wp2
        go_quiet (fail)
        go_wp2
        go_ret
        exact ⟨ret_of (by rw [HQ.out]; first | rfl | simp), _, rfl⟩
    · have HQ : Hid (q = false) := HNO.out (fun h => by have := HY.out.1 h; omega)
      have d0 : decide (0 ≤ x0) = false := by simp; omega
      clear HYES HNO HY
      go_enter Tryd.func125, Tryd.ntmps125
      go_wp2
      go_quiet (fail)
      go_wp2
      go_ret
      exact ⟨ret_of (by rw [HQ.out]; first | rfl | simp), _, rfl⟩
  · have HQ : Hid (dgB k d = false) := dgB_no fun h => h2 (by rw [← hx]; exact h.1)
    have hl : ((n : Int) == 2) = false := by simp; omega
    clear hA hx h2
    go_enter Tryd.func125, Tryd.ntmps125
    go_wp2
    go_quiet (fail)
    go_wp2
    go_ret
    exact ⟨ret_of (by rw [HQ.out]; first | rfl | simp), _, rfl⟩

instance befDec (a b : List Int) : Decidable (BefD a b) := by unfold BefD; infer_instance
/-- What slices.Compare tells of a list and a danger. -/
noncomputable def cmpD (a b : List Int) : Int := if a = [] then -1 else if BefD a b then -1 else if BefD b a then 1 else 0
theorem cmpD_neg {a b : List Int} (h : a = [] ∨ BefD a b) : cmpD a b = -1 := by
  unfold cmpD
  rcases h with h | h
  · rw [if_pos h]
  · by_cases ha : a = []
    · rw [if_pos ha]
    · rw [if_neg ha, if_pos h]
theorem cmpD_pos {a b : List Int} (h : a ≠ []) (h1 : ¬ BefD a b) : 0 ≤ cmpD a b := by
  unfold cmpD
  rw [if_neg h, if_neg h1]
  split <;> omega
theorem cmpD_0 {a b : List Int} (h : a ≠ []) (h1 : a.getD 0 0 ≠ b.getD 0 0) : cmpD a b = Go.Lib.compareInt (a.getD 0 0) (b.getD 0 0) := by
  unfold cmpD Go.Lib.compareInt BefD
  rw [if_neg h]
  repeat' split
  all_goals omega
theorem cmpD_1 {a b : List Int} (h : a ≠ []) (h1 : a.getD 0 0 = b.getD 0 0) : cmpD a b = Go.Lib.compareInt (a.getD 1 0) (b.getD 1 0) := by
  unfold cmpD Go.Lib.compareInt BefD
  rw [if_neg h]
  repeat' split
  all_goals omega

set_option maxHeartbeats 3200000 in
theorem compareD_any (A B : Option Addr) (n c m d : Nat) (x y : List Int) (w : World) (hA : Holds w A (nums x)) (hB : Holds w B (nums y)) (hx : x.length = n) (hn : x = [] ∨ x.length = 2) (hy : y.length = 2) (hm : m = 2) :
    Calls Tryd.prog 126 #[.slice A n c, .slice B m d] w fun e w' => e = .returned (.int .i64 (cmpD x y)) ∧ w = w' := by
  subst hm
  obtain ⟨b', o', rfl, hb', c0, c1⟩ := two_at hB hy
  rcases hn with rfl | hl
  · obtain rfl : n = 0 := by simpa using hx.symm
    have HQ : Hid (cmpD [] y = -1) := cmpD_neg (.inl rfl)
    clear hA hB hx hy
    go_enter Tryd.func126, Tryd.ntmps126
    go_wp2
    go_loop [11] (fun i => i = .int .i64 0) (fun _ => 0)
    case atStart => rfl
    case round =>
      subst hrel
      go_wp2
      go_ret
      exact ⟨ret_of (by rw [HQ.out]; rfl), rfl⟩
  · obtain rfl : n = 2 := by omega
    have hne : x ≠ [] := by intro h; rw [h] at hl; cases hl
    obtain ⟨b, o, rfl, hb, a0, a1⟩ := two_at hA hl
    have H0 : Hid (x.getD 0 0 ≠ y.getD 0 0 → cmpD x y = Go.Lib.compareInt (x.getD 0 0) (y.getD 0 0)) := cmpD_0 hne
    have H1 : Hid (x.getD 0 0 = y.getD 0 0 → cmpD x y = Go.Lib.compareInt (x.getD 1 0) (y.getD 1 0)) := cmpD_1 hne
    clear hA hB hx hy hl hne
    generalize cmpD x y = q at *
    generalize x.getD 0 0 = x0 at *
    generalize y.getD 0 0 = y0 at *
    generalize x.getD 1 0 = x1 at *
    generalize y.getD 1 0 = y1 at *
    go_enter Tryd.func126, Tryd.ntmps126
    go_wp2
    go_loop [11] (fun i => ∃ j : Nat, j ≤ 2 ∧ i = .int .i64 j ∧ (0 < j → x0 = y0) ∧ (1 < j → x1 = y1)) (fun i => 2 - (intOf i).toNat)
    case atStart => exact ⟨0, by omega, rfl, fun h => by omega, fun h => by omega⟩
    case round =>
      obtain ⟨j, hj, rfl, e0, e1⟩ := hrel
      have hjc : j = 0 ∨ j = 1 ∨ j = 2 := by omega
      rcases hjc with rfl | rfl | rfl
      · clear e0 e1
        by_cases he : x0 = y0
        · have HC : Hid (Go.Lib.compareInt x0 y0 = 0) := by show _ = _; unfold Go.Lib.compareInt; rw [if_neg (by omega), if_neg (by omega)]
          have HE := Lib.hid he
          clear he
          go_wp2_with (go_at_call 141; refine (comparek_any _ _ _).mono ?_; rintro e w' ⟨rfl, rfl⟩; rw [HC.out])
          go_round
          case rel => exact ⟨1, by omega, rfl, fun _ => HE.out, fun h => by omega⟩
          case measure => simp [intOf]
        · have HC : Hid ((Go.Lib.compareInt x0 y0 != 0) = true) := by show _ = _; unfold Go.Lib.compareInt; by_cases h1 : x0 < y0 <;> by_cases h2 : y0 < x0 <;> simp [h1, h2]; omega
          have HQ : Hid (q = Go.Lib.compareInt x0 y0) := H0.out he
          clear he
          have hc := HC.out
          go_wp2_with (go_at_call 141; refine (comparek_any _ _ _).mono ?_; rintro e w' ⟨rfl, rfl⟩)
          go_ret
          exact ⟨ret_of (by rw [HQ.out]; rfl), rfl⟩
      · have HE := Lib.hid (e0 (by omega))
        clear e0 e1
        by_cases he : x1 = y1
        · have HC : Hid (Go.Lib.compareInt x1 y1 = 0) := by show _ = _; unfold Go.Lib.compareInt; rw [if_neg (by omega), if_neg (by omega)]
          have HE1 := Lib.hid he
          clear he
          go_wp2_with (go_at_call 141; refine (comparek_any _ _ _).mono ?_; rintro e w' ⟨rfl, rfl⟩; rw [HC.out])
          go_round
          case rel => exact ⟨2, by omega, rfl, fun _ => HE.out, fun _ => HE1.out⟩
          case measure => simp [intOf]
        · have HC : Hid ((Go.Lib.compareInt x1 y1 != 0) = true) := by show _ = _; unfold Go.Lib.compareInt; by_cases h1 : x1 < y1 <;> by_cases h2 : y1 < x1 <;> simp [h1, h2]; omega
          have HQ : Hid (q = Go.Lib.compareInt x1 y1) := H1.out HE.out
          clear he
          have hc := HC.out
          go_wp2_with (go_at_call 141; refine (comparek_any _ _ _).mono ?_; rintro e w' ⟨rfl, rfl⟩)
          go_ret
          exact ⟨ret_of (by rw [HQ.out]; rfl), rfl⟩
      · have HQ : Hid (q = 0) := by
          show _ = _
          rw [H1.out (e0 (by omega)), e1 (by omega)]
          unfold Go.Lib.compareInt
          rw [if_neg (by omega), if_neg (by omega)]
        clear e0 e1
        go_wp2
        go_ret
        exact ⟨ret_of (by rw [HQ.out]; rfl), rfl⟩

set_option maxHeartbeats 3200000 in
set_option maxRecDepth 100000 in
theorem isKeep_any (k s : Int) (A : Option Addr) (n c : Nat) (rs : List RowV) (w : World) (hA : Grid w A rs) (hx : rs.length = n) (hn : n ≤ 1048576) :
    Calls Tryd.prog 76 #[.agg #[.int .i64 k, .slice A n c, .int .i64 s]] w fun e w' => e = .returned (.bool (keepOk k s (rowNums rs))) ∧ Below w.heap.size w w' := by
  subst hx
  have HLS := Lib.hid (rowNums_len rs)
  have h0 := Lib.hid (Whole.fresh w 41 #[.int .i64 k, .slice A rs.length c, .int .i64 s])
  have hb1 := Lib.hid (below1 w (.cells #[.int .i64 k, .slice A rs.length c, .int .i64 s] 41))
  have HG := Lib.hid hA
  obtain ⟨f0, f1, f2⟩ := h0.out.cells3
  obtain ⟨q, hq⟩ : ∃ q : Bool, q = keepOk k s (rowNums rs) := ⟨_, rfl⟩
  rw [← hq]
  have HQ := Lib.hid hq
  clear hq hA
  by_cases hok : 0 ≤ k ∧ k ≤ 8 ∧ 0 ≤ s ∧ s ≤ 8
  rotate_left
  · have HQ2 : Hid (q = false) := by
      show _ = _
      rw [HQ.out]
      exact keepOk_out hok
    clear HQ
    obtain ⟨g5, g6⟩ | ⟨g5, g6⟩ | ⟨g5, g6⟩ : (k ≤ s ∧ k < s) ∨ (k ≤ s ∧ ¬ k < s) ∨ (¬ k ≤ s ∧ ¬ k < s) := by omega
    all_goals (by_cases g1 : k < 0 <;> by_cases g2 : s < 0 <;> by_cases g3 : 8 < k <;> by_cases g4 : 8 < s)
    all_goals first
      | (exfalso; omega)
      | (clear hok; go_enter Tryd.func76, Tryd.ntmps76; go_wp2; go_ret; exact ⟨ret_of (by rw [HQ2.out]; rfl), hb1.out⟩)
  · have HKS := Lib.hid hok
    have g1 : ¬ k < 0 := by omega
    have g2 : ¬ s < 0 := by omega
    have g3 : ¬ 8 < k := by omega
    have g4 : ¬ 8 < s := by omega
    have HK8 : Hid (k ≤ 8) := hok.2.1
    clear hok
    obtain ⟨g5, g6⟩ | ⟨g5, g6⟩ | ⟨g5, g6⟩ : (k ≤ s ∧ k < s) ∨ (k ≤ s ∧ ¬ k < s) ∨ (¬ k ≤ s ∧ ¬ k < s) := by omega
    all_goals
      go_enter Tryd.func76, Tryd.ntmps76
      go_wp2
      clear g1 g2 g3 g4 g5 g6
      go_loopw [3, 23] (fun v i wr => ∃ j : Nat, j ≤ rs.length ∧ i = .int .i64 j ∧ (∃ (P : Option Addr) (pn pc : Nat) (pxs : List Int), v = .slice P pn pc ∧ Holds w P (nums pxs) ∧ pxs.length = pn ∧ ((j = 0 ∧ pxs = []) ∨ (0 < j ∧ pxs = (rowNums rs).getD (j - 1) []))) ∧ DgTo k (rowNums rs) j ∧ Whole wr w.heap.size 41 #[.int .i64 k, .slice A rs.length c, .int .i64 s] ∧ Below w.heap.size w wr) (fun _ i _ => rs.length - (intOf i).toNat)
      case atStart => exact ⟨0, Nat.zero_le _, rfl, ⟨none, 0, 0, [], rfl, .inl rfl, rfl, .inl ⟨rfl, rfl⟩⟩, DgTo.start _ _, h0.out, hb1.out⟩
      case round =>
        clear f0 f1 f2 h0 hb1
        obtain ⟨j, hj, rfl, ⟨P, pn, pc, pxs, rfl, hP, hpl, hpx⟩, hdt, h0, hb⟩ := hrel
        by_cases hlt : j < rs.length
        · obtain ⟨b, o, rfl, hbl, hcell, hrow, hrl, hrn⟩ := grid_row HG.out hlt
          replace hcell := (hb.cell (p := ⟨b, o + j, none⟩) hbl).trans hcell
          have HAT := Lib.hid (rows_at rs hlt)
          obtain ⟨f0, f1, f2⟩ := h0.cells3
          obtain ⟨R, hR⟩ : ∃ R, R = rs[j] := ⟨_, rfl⟩
          rw [← hR] at hcell hrow hrl hrn HAT
          have HD := Lib.hid hdt
          have H0 := Lib.hid h0
          have HB := Lib.hid hb
          have HJ : Hid (j < (rowNums rs).length) := by show _ < _; rw [HLS.out]; exact hlt
          obtain ⟨rA, rn, rc, rxs⟩ := R
          replace hcell : World.cell? wr ⟨b, o + j, none⟩ = some (.slice rA rn rc) := hcell
          replace hrn : rn ≤ 9223372036854775807 := hrn
          have HRL2 : Hid (rxs.length = rn) := hrl
          have HRW0 : Hid (Holds w rA (nums rxs)) := hrow
          have HRW2 : Hid (Holds wr rA (nums rxs)) := HRW0.out.below hb
          have HAT2 : Hid ((rowNums rs).getD j [] = rxs) := HAT.out
          have HP : Hid (Holds wr P (nums pxs)) := hP.below hb
          have HPL := Lib.hid hpl
          have HPX := Lib.hid hpx
          clear HAT hrow hrl hR hdt h0 hb hP hpl hpx
          cases hr : dgB k rxs
          · have HN : Hid (q = false) := by
              show _ = _
              rw [HQ.out]
              refine keepOk_no HJ.out fun h => ?_
              have h1 := h.1
              rw [HAT2.out] at h1
              rw [dgB_yes h1] at hr
              cases hr
            have HR := Lib.hid hr
            clear hr HQ
            go_wp2_with (go_at_call 125; refine (isDanger_any _ _ _ rxs k _ HRW2.out HRL2.out hrn).mono ?_; rintro e w' ⟨rfl, jj, rfl⟩; rw [HR.out])
            go_ret
            exact ⟨ret_of (by rw [HN.out]; rfl), below_draws HB.out jj⟩
          · have HDG : Hid (IsDg k rxs) := Classical.byContradiction fun h => by rw [dgB_no h] at hr; cases hr
            have HR := Lib.hid hr
            obtain rfl : rn = 2 := by have := HDG.out.1; have := HRL2.out; omega
            have HP2 : Hid (pxs = [] ∨ pxs.length = 2) := by
              rcases HPX.out with ⟨-, h⟩ | ⟨h1, h2⟩
              · exact .inl h
              · exact .inr (by rw [h2]; exact (HD.out (j - 1) (by omega)).1.1)
            clear hr
            by_cases hbf : pxs = [] ∨ BefD pxs rxs
            · have HST : Hid (DgTo k (rowNums rs) (j + 1)) := HD.out.next ⟨by rw [HAT2.out]; exact HDG.out, by
                rcases HPX.out with ⟨h, -⟩ | ⟨h1, h2⟩
                · exact .inl h
                · rw [HAT2.out, ← h2]
                  rcases hbf with h | h
                  · have h3 := (HD.out (j - 1) (by omega)).1.1
                    rw [← h2, h] at h3
                    cases h3
                  · exact .inr h⟩
              have HF := Lib.hid (cmpD_neg hbf)
              clear hbf
              go_wp2_with (first | (go_at_call 125; refine (isDanger_any _ _ _ rxs k _ HRW2.out HRL2.out hrn).mono ?_; rintro e w' ⟨rfl, jj, rfl⟩; rw [HR.out]) | (go_at_call 126; refine (compareD_any _ _ _ _ _ _ pxs rxs _ (by exact HP.out.below (below_draws (Below.refl _ _) jj)) (by exact HRW2.out.below (below_draws (Below.refl _ _) jj)) HPL.out HP2.out HRL2.out rfl).mono ?_; rintro e w' ⟨rfl, rfl⟩; rw [HF.out]))
              go_roundw
              case rel => exact ⟨j + 1, by omega, by go_num, ⟨rA, 2, rc, rxs, rfl, HRW0.out, HRL2.out, .inr ⟨by omega, by rw [show j + 1 - 1 = j by omega]; exact HAT2.out.symm⟩⟩, HST.out, H0.out.below (below_draws (Below.refl _ _) jj), below_draws HB.out jj⟩
              case measure => simp [intOf]; omega
            · have hbf1 : pxs ≠ [] := fun h => hbf (.inl h)
              have hbf2 : ¬ BefD pxs rxs := fun h => hbf (.inr h)
              have HN : Hid (q = false) := by
                show _ = _
                rw [HQ.out]
                refine keepOk_no HJ.out fun h => ?_
                rcases HPX.out with ⟨-, h1⟩ | ⟨h1, h2⟩
                · exact hbf1 h1
                · rcases h.2 with h3 | h3
                  · omega
                  · rw [HAT2.out, ← h2] at h3
                    exact hbf2 h3
              obtain ⟨r, hr⟩ : ∃ r, r = cmpD pxs rxs := ⟨_, rfl⟩
              have hr0 : 0 ≤ r := by rw [hr]; exact cmpD_pos hbf1 hbf2
              have HF : Hid (cmpD pxs rxs = r) := hr.symm
              have hdr : decide (0 ≤ r) = true := by simp only [decide_eq_true_eq]; exact hr0
              clear hbf hbf1 hbf2 hr HQ
              go_wp2_with (first | (go_at_call 125; refine (isDanger_any _ _ _ rxs k _ HRW2.out HRL2.out hrn).mono ?_; rintro e w' ⟨rfl, jj, rfl⟩; rw [HR.out]) | (go_at_call 126; refine (compareD_any _ _ _ _ _ _ pxs rxs _ (by exact HP.out.below (below_draws (Below.refl _ _) jj)) (by exact HRW2.out.below (below_draws (Below.refl _ _) jj)) HPL.out HP2.out HRL2.out rfl).mono ?_; rintro e w' ⟨rfl, rfl⟩; rw [HF.out]))
              go_ret
              exact ⟨ret_of (by rw [HN.out]; rfl), below_draws HB.out jj⟩
        · have HN : Hid (q = true) := by
            show _ = _
            rw [HQ.out]
            exact keepOk_yes HKS.out hdt (by rw [HLS.out]; omega)
          clear HQ
          go_wp2
          go_ret
          exact ⟨ret_of (by rw [HN.out]; rfl), hb⟩

theorem implIsKeep_on (k s : Int) (A : Option Addr) (n c : Nat) (rs : List RowV) (ls : List (List Int)) (w : World) (hA : Grid w A rs) (he : rowNums rs = ls) (hx : rs.length = n) (hn : n ≤ 1048576) :
    Calls Tryd.prog 76 #[.agg #[.int .i64 k, .slice A n c, .int .i64 s]] w fun e w' => e = .returned (.bool (keepOk k s ls)) ∧ Below w.heap.size w w' :=
  he ▸ isKeep_any k s A n c rs w hA hx hn
end Go.Proofs.YtedkanncdkofaaaDoor

namespace Go.Proofs.YtedkanncdkofaaaDoor
open Go.RowKit

theorem Fresh.turn {w : World} {lo hi k : Nat} {ty : TypeId} {A : Option Addr} {xs : List Value} (hf : Fresh w lo hi ty A xs) (hk : k < xs.length) :
    ∃ g u, A = some ⟨g, 0, none⟩ ∧ lo ≤ g ∧ g < hi ∧ g < w.heap.size ∧ w.cell? ⟨g, k, none⟩ = some u ∧ w.frozen? ⟨g, k, none⟩ = false ∧ ∀ v, Fresh (w.setCell ⟨g, k, none⟩ v) lo hi ty A (xs.set k v) := by
  rcases hf with rfl | ⟨g, cs, hA, h1, h2, hw, h3, h4⟩
  · simp at hk
  · refine ⟨g, cs[k]'(by omega), hA, h1, h2, hw.lt, (hw.cell k).trans (by simp), hw.open_ k, fun v => .inr ⟨g, _, hA, h1, h2, hw.set_ k v, by simpa using h3, ?_⟩⟩
    rw [List.length_set, Array.toList_setIfInBounds, ← h4, List.take_set, List.length_take]
    congr 2
    simp only [Array.length_toList]
    omega

end Go.Proofs.YtedkanncdkofaaaDoor

namespace Go.Proofs.YtedkanncdkofaaaDoor
open Go.RowKit

theorem Holds.spot {w : World} {A : Option Addr} {xs : List Value} (h : Holds w A xs) (h0 : 0 < xs.length) : ∃ b o, A = some ⟨b, o, none⟩ ∧ b < w.heap.size ∧ ∀ j u, xs[j]? = some u → w.cell? ⟨b, o + j, none⟩ = some u := by
  rcases h with rfl | h
  · simp at h0
  · exact h
/-- The places lie in a block that is old or new, but none of the call's own first three. -/
def Apart (B : Nat) (w : World) (A : Option Addr) (xs : List Value) : Prop := ∃ b o, A = some ⟨b, o, none⟩ ∧ b < w.heap.size ∧ (b < B ∨ B + 1 + 1 + 1 ≤ b) ∧ ∀ j u, xs[j]? = some u → w.cell? ⟨b, o + j, none⟩ = some u
theorem Apart.holds {B : Nat} {w : World} {A : Option Addr} {xs : List Value} (h : Apart B w A xs) : Holds w A xs := by
  obtain ⟨b, o, hA, hb, -, hc⟩ := h
  exact .inr ⟨b, o, hA, hb, hc⟩
theorem Apart.below {B : Nat} {w w' : World} {A : Option Addr} {xs : List Value} (h : Apart B w A xs) (hb : Below w.heap.size w w') : Apart B w' A xs := by
  obtain ⟨b, o, hA, hl, hd, hc⟩ := h
  exact ⟨b, o, hA, Nat.lt_of_lt_of_le hl hb.size, hd, fun j u hu => (hb.cell (p := ⟨b, o + j, none⟩) hl).trans (hc j u hu)⟩
theorem Apart.set {B g i : Nat} {w : World} {A : Option Addr} {xs : List Value} (h : Apart B w A xs) (hg : B ≤ g ∧ g ≤ B + 1 + 1) (v : Value) : Apart B (w.setCell ⟨g, i, none⟩ v) A xs := by
  obtain ⟨b, o, hA, hl, hd, hc⟩ := h
  refine ⟨b, o, hA, by simpa [World.setCell] using hl, hd, fun j u hu => ?_⟩
  have h1 := hc j u hu
  have h2 := Below.heap_setCell w ⟨g, i, none⟩ v b (by show b ≠ g; omega)
  simp only [World.cell?] at h1 ⊢
  rw [h2]
  exact h1

/-- What paPlay hands back. -/
def PlayPost (n : Nat) (s : Int) (bs : List Bool) (t : Bool) (ls : List (List Int)) (m : Nat) (w : World) (e : Ending) (w' : World) : Prop :=
  ∃ (A : Option Addr) (c : Nat), e = .returned (.tuple #[.agg #[.slice A m c, .bool (ended n s bs t ls).2], .int .i64 (made n s bs t ls)]) ∧ Holds w' A (bits (ended n s bs t ls).1) ∧ Below w.heap.size w w'

theorem rowNums_get {rs : List RowV} {k : Nat} (hk : k < rs.length) : (rowNums rs)[k]'(by rw [rowNums_len]; exact hk) = rs[k].xs := by simp [rowNums]

end Go.Proofs.YtedkanncdkofaaaDoor

namespace Go.Proofs.YtedkanncdkofaaaDoor
open Go.RowKit

theorem cat_big (l m r : List UInt8) (he : r = l ++ m) (h : l.length ≤ 8388608) (h2 : m.length ≤ 8388608) (W : World) : (Op.stringOp .add (strOf l) (strOf m)).run Tryd.prog W = .ok (.string (strOf r)) W := by
  rw [he]
  exact run_string_add_lists W l m (by omega) (by omega)
/-- A danger as a word. -/
def dgText (d : List Int) : List UInt8 := digs (d.getD 0 0) ++ digs (d.getD 1 0)
/-- What stands ahead of the dangers. -/
def keepHead (k s : Int) : List UInt8 := digs k ++ [47] ++ digs s ++ [47]
/-- The text of a keep. -/
def keepText (k s : Int) (ds : List (List Int)) : List UInt8 := keepHead k s ++ Lib.join (ds.map dgText) [46]
/-- What KeepText tells. -/
noncomputable def keepTextOf (k s : Int) (ds : List (List Int)) : List UInt8 := if keepOk k s ds then keepText k s ds else []
theorem digs_one {n : Int} (h : n < 10) : (digs n).length ≤ 1 := decDigits_le 0 _ (by omega)
theorem keepHead_le {k s : Int} (hk : k ≤ 8) (hs : s ≤ 8) : (keepHead k s).length ≤ 4 := by
  have h1 := digs_one (n := k) (by omega)
  have h2 := digs_one (n := s) (by omega)
  simp only [keepHead, List.length_append, List.length_singleton]
  omega
theorem dgText_le {k : Int} {d : List Int} (hk : k ≤ 8) (h : IsDg k d) : (dgText d).length ≤ 2 := by
  obtain ⟨-, h0, h1, h2⟩ := h
  have e1 := digs_one (n := d.getD 0 0) (by omega)
  have e2 := digs_one (n := d.getD 1 0) (by omega)
  simp only [dgText, List.length_append]
  omega
theorem dgs_le {k s : Int} {ds : List (List Int)} (h : keepOk k s ds = true) : ∀ x ∈ ds.map dgText, x.length ≤ 2 := by
  intro x hx
  obtain ⟨d, hd, rfl⟩ := List.mem_map.1 hx
  obtain ⟨i, hi, rfl⟩ := List.getElem_of_mem hd
  exact dgText_le (keepOk_iff.1 h).1.2.1 (dg_at h hi)
/-- A danger's two things. -/
theorem dg_two {k : Int} {d : List Int} (h : IsDg k d) : ∃ a b, d = [a, b] ∧ 0 ≤ a ∧ a < b ∧ b < k := by
  obtain ⟨hl, h0, h1, h2⟩ := h
  match d, hl with
  | [a, b], _ => exact ⟨a, b, rfl, by simpa using h0, by simpa using h1, by simpa using h2⟩

set_option maxHeartbeats 3200000 in
set_option maxRecDepth 100000 in
theorem keText_any (k0 s : Int) (A : Option Addr) (n c : Nat) (rs : List RowV) (w : World) (hA : Grid w A rs) (hx : rs.length = n) (hn : n ≤ 1048576) (hp : keepOk k0 s (rowNums rs) = true) :
    Calls Tryd.prog 74 #[.agg #[.int .i64 k0, .slice A n c, .int .i64 s]] w (StrPost (keepText k0 s (rowNums rs)) w) := by
  obtain ⟨⟨g1, g2, g3, g4⟩, -⟩ := keepOk_iff.1 hp
  have HX := Lib.hid hx
  have HDG := Lib.hid (fun (j : Nat) (hj : j < (rowNums rs).length) => dg_at hp hj)
  have HML := Lib.hid (show ((rowNums rs).map dgText).length = n by rw [List.length_map, rowNums_len, hx])
  have hhl := keepHead_le g2 g4
  have HUL := Lib.hid (fun k => wordsUp_le (keepHead k0 s) ((rowNums rs).map dgText) 46 k 2 (dgs_le hp))
  have h0 := Whole.fresh w 41 #[.int .i64 k0, .slice A n c, .int .i64 s]
  obtain ⟨c0, c1, c2⟩ := h0.cells3
  have ht := below1 w (.cells #[.int .i64 k0, .slice A n c, .int .i64 s] 41)
  have e1 := digs_one (n := k0) (by omega)
  have e2 := digs_one (n := s) (by omega)
  obtain ⟨M1, hM1⟩ : ∃ M, M = digs k0 ++ [47] := ⟨_, rfl⟩
  have s1 := cat_to (digs k0) [47] M1 hM1 (by omega) (by simp)
  obtain ⟨M2, hM2⟩ : ∃ M, M = M1 ++ digs s := ⟨_, rfl⟩
  have s2 := cat_to M1 (digs s) M2 hM2 (by rw [hM1]; simp; omega) (by omega)
  have s3 := cat_to M2 [47] (wordsUp (keepHead k0 s) ((rowNums rs).map dgText) 46 0) (by rw [wordsUp_zero, hM2, hM1]; rfl) (by rw [hM2, hM1]; simp; omega) (by simp)
  have HH := Lib.hid hhl
  clear hx hp hM1 hM2 hhl e1 e2
  go_enter Tryd.func74, Tryd.ntmps74
  go_wp2_with fail
  go_region_held3 (fun w' => w'.cell? ⟨w.heap.size, 0, none⟩ = some (.int .i64 k0) ∧ w'.cell? ⟨w.heap.size, 2, none⟩ = some (.int .i64 s)) (go_keep)
    (first | (go_at_call 112; with_reducible refine (l1Num_any k0 _ g1 (by omega)).mono ?_; rintro e w1 ⟨rfl, hb1⟩; have ht1 := below_then ht.drew hb1 ht.drew.size; obtain ⟨k10, k11, k12⟩ := (h0.drew.below hb1).cells3) | (go_at_call 112; with_reducible refine (l1Num_any s _ g3 (by omega)).mono ?_; rintro e w2 ⟨rfl, hb2⟩; have ht2 := below_then ht1 hb2 ht1.size; obtain ⟨k20, k21, k22⟩ := ((h0.drew.below hb1).below hb2).cells3))
  have hq := (h0.drew.below hb1).below hb2
  clear s1 s2 s3 c0 c1 c2 h0 ht ht1 hb1 hb2 k10 k11 k12
  go_wp2
  go_loopw [3, 18] (fun v i wr => ∃ k : Nat, k ≤ n ∧ i = .int .i64 k ∧ v = .string (strOf (wordsUp (keepHead k0 s) ((rowNums rs).map dgText) 46 k)) ∧ Below w.heap.size w wr) (fun _ i _ => n - (intOf i).toNat)
  case atStart => exact ⟨0, Nat.zero_le _, rfl, rfl, ht2⟩
  case round =>
    obtain ⟨k, hk, rfl, rfl, ht⟩ := hrel
    clear k20 k21 k22 hq ht2
    have hlen := HUL.out k
    rw [HML.out] at hlen
    replace hlen : (wordsUp (keepHead k0 s) ((rowNums rs).map dgText) 46 k).length ≤ 3145732 := by have := HH.out; omega
    by_cases hlt : k < n
    · have hkx : k < rs.length := by have := HX.out; omega
      have hkr : k < (rowNums rs).length := by rw [rowNums_len]; exact hkx
      have hkm : k < ((rowNums rs).map dgText).length := by have := HML.out; omega
      obtain ⟨b1, o1, rfl, hbl1, hc, hok⟩ := hA.look hkx
      have hdg := HDG.out k hkr
      have H1 := Lib.hid (wordsUp_one (keepHead k0 s) ((rowNums rs).map dgText) 46 k hkm)
      have HNX := Lib.hid (wordsUp_next (keepHead k0 s) ((rowNums rs).map dgText) 46 k hkm)
      rw [show ((rowNums rs).map dgText)[k] = dgText (rowNums rs)[k] by simp] at H1 HNX
      rw [rowNums_get hkx] at hdg H1 HNX
      generalize rs[k] = r at hc hok hdg H1 HNX
      obtain ⟨B1, n1, d1, x1⟩ := r
      obtain ⟨ok1, ok2, ok3⟩ := hok
      dsimp only at hc ok1 ok2 ok3 hdg H1 HNX
      obtain ⟨a, b, rfl, ha0, hab, hbk⟩ := dg_two hdg
      obtain rfl : 2 = n1 := ok2
      obtain ⟨b2, o2, rfl, hbl2, e0⟩ := ok1.look (k := 0) (by simp [nums])
      obtain ⟨b3, o3, he, -, e1⟩ := ok1.look (k := 1) (by simp [nums])
      cases he
      have e0w : w.cell? ⟨b2, o2, none⟩ = some (.int .i64 a) := e0
      have e1w : w.cell? ⟨b2, o2 + 1, none⟩ = some (.int .i64 b) := e1
      have hcr := (ht.cell (p := ⟨b1, o1 + k, none⟩) hbl1).trans hc
      have e0r := (ht.cell (p := ⟨b2, o2, none⟩) hbl2).trans e0w
      have e1r := (ht.cell (p := ⟨b2, o2 + 1, none⟩) hbl2).trans e1w
      have d1l := digs_one (n := a) (by omega)
      have d2l := digs_one (n := b) (by omega)
      have s4 := cat_to (digs a) (digs b) (dgText [a, b]) rfl (by omega) (by omega)
      have hRl : (dgText [a, b]).length ≤ 2 := by simp [dgText]; omega
      generalize dgText [a, b] = R at s4 hRl H1 HNX
      generalize hL1 : wordsUp (keepHead k0 s) ((rowNums rs).map dgText) 46 (k + 1) = L1 at H1 HNX
      have HL1 := Lib.hid hL1
      clear hL1 e0 e1 hdg hc ok1
      generalize wordsUp (keepHead k0 s) ((rowNums rs).map dgText) 46 k = L0 at H1 HNX hlen
      rcases Nat.eq_zero_or_pos k with h1 | h1
      · have hnx := H1.out h1
        have hkz : ¬ ((k : Int) > 0) := by omega
        have s5 := cat_big L0 R L1 hnx (by omega) (by omega)
        clear hlen h1 hnx H1 HNX
        go_wp2_with fail
        go_region_held3 (fun w' => w'.cell? ⟨b2, o2, none⟩ = some (.int .i64 a) ∧ w'.cell? ⟨b2, o2 + 1, none⟩ = some (.int .i64 b)) (go_keep)
          (first | (go_at_call 112; with_reducible refine (l1Num_any a _ (by omega) (by omega)).mono ?_; rintro e w3 ⟨rfl, hb3⟩; have ht3 := below_then ht.drew hb3 ht.drew.size; have k30 := (ht3.cell (p := ⟨b2, o2, none⟩) hbl2).trans e0w; have k31 := (ht3.cell (p := ⟨b2, o2 + 1, none⟩) hbl2).trans e1w) | (go_at_call 112; with_reducible refine (l1Num_any b _ (by omega) (by omega)).mono ?_; rintro e w4 ⟨rfl, hb4⟩; have ht4 := below_then ht3 hb4 ht3.size; have k40 := (ht4.cell (p := ⟨b2, o2, none⟩) hbl2).trans e0w; have k41 := (ht4.cell (p := ⟨b2, o2 + 1, none⟩) hbl2).trans e1w))
        clear e0r e1r e0w e1w hcr hA
        go_wp2
        go_roundw
        case rel => exact ⟨k + 1, by omega, by go_num, by rw [HL1.out], ht4⟩
        case measure => simp [intOf]; omega
      · have hnx := HNX.out (by omega)
        obtain ⟨M, hM⟩ : ∃ M, M = L0 ++ [46] := ⟨_, rfl⟩
        rw [← hM] at hnx
        have hMl : M.length ≤ 3145733 := by rw [hM]; simp; omega
        have hkz : (k : Int) > 0 := by omega
        have s0 := cat_big L0 [46] M hM (by omega) (by simp)
        have s5 := cat_big M R L1 hnx (by omega) (by omega)
        clear hlen h1 hnx H1 HNX hM hMl
        go_wp2_with fail
        go_region_held3 (fun w' => w'.cell? ⟨b2, o2, none⟩ = some (.int .i64 a) ∧ w'.cell? ⟨b2, o2 + 1, none⟩ = some (.int .i64 b)) (go_keep)
          (first | (go_at_call 112; with_reducible refine (l1Num_any a _ (by omega) (by omega)).mono ?_; rintro e w3 ⟨rfl, hb3⟩; have ht3 := below_then ht.drew hb3 ht.drew.size; have k30 := (ht3.cell (p := ⟨b2, o2, none⟩) hbl2).trans e0w; have k31 := (ht3.cell (p := ⟨b2, o2 + 1, none⟩) hbl2).trans e1w) | (go_at_call 112; with_reducible refine (l1Num_any b _ (by omega) (by omega)).mono ?_; rintro e w4 ⟨rfl, hb4⟩; have ht4 := below_then ht3 hb4 ht3.size; have k40 := (ht4.cell (p := ⟨b2, o2, none⟩) hbl2).trans e0w; have k41 := (ht4.cell (p := ⟨b2, o2 + 1, none⟩) hbl2).trans e1w))
        clear e0r e1r e0w e1w hcr hA
        go_wp2
        go_roundw
        case rel => exact ⟨k + 1, by omega, by go_num, by rw [HL1.out], ht4⟩
        case measure => simp [intOf]; omega
    · obtain rfl : k = n := by omega
      have HE := Lib.hid (wordsUp_end (keepHead k0 s) ((rowNums rs).map dgText) 46 k HML.out)
      go_wp2
      go_ret
      exact ⟨by rw [HE.out]; rfl, ht⟩

set_option maxHeartbeats 1600000 in
set_option maxRecDepth 100000 in
theorem specKeepText_any (k0 s : Int) (A : Option Addr) (n c : Nat) (rs : List RowV) (w : World) (hA : Grid w A rs) (hx : rs.length = n) (hn : n ≤ 1048576) :
    Calls Tryd.prog 23 #[.agg #[.int .i64 k0, .slice A n c, .int .i64 s]] w (TextPost (keepTextOf k0 s (rowNums rs)) (keepOk k0 s (rowNums rs)) w) := by
  have HX := Lib.hid hx
  have hA2 := hA.alloc (.cells #[.int .i64 k0, .slice A n c, .int .i64 s] 41)
  have h0 := Whole.fresh w 41 #[.int .i64 k0, .slice A n c, .int .i64 s]
  obtain ⟨c0, c1, c2⟩ := h0.cells3
  have ht0 := below1 w (.cells #[.int .i64 k0, .slice A n c, .int .i64 s] 41)
  clear hx
  go_enter Tryd.func23, Tryd.ntmps23
  go_wp2_with fail
  refine (keGood_any k0 s A n c rs _ hA2 HX.out hn).mono ?_
  rintro e w1 ⟨rfl, hb⟩
  have ht := below_then ht0 hb (by simp)
  replace h0 := h0.below hb
  replace hA2 := hA2.below hb
  clear hb ht0 c0 c1 c2
  obtain ⟨c0, c1, c2⟩ := h0.cells3
  cases hp : keepOk k0 s (rowNums rs)
  · have HO := Lib.hid (show keepTextOf k0 s (rowNums rs) = [] by simp [keepTextOf, hp])
    have HP := Lib.hid hp
    clear hp
    go_wp2
    go_ret2
    exact ⟨by rw [HO.out, HP.out]; rfl, ht⟩
  · have HO := Lib.hid (show keepTextOf k0 s (rowNums rs) = keepText k0 s (rowNums rs) by simp [keepTextOf, hp])
    have HP := Lib.hid hp
    clear hp
    go_wp2_with fail
    refine (keText_any k0 s A n c rs _ hA2 HX.out hn HP.out).mono ?_
    rintro e w2 ⟨rfl, hb⟩
    replace ht := below_then ht hb ht.size
    clear hb c0 c1 c2
    go_wp2
    go_ret2
    exact ⟨by rw [HO.out, HP.out]; rfl, ht⟩
end Go.Proofs.YtedkanncdkofaaaDoor

namespace Go.Proofs.YtedkanncdkofaaaDoor
open Go.RowKit

theorem own_belowQ {w w' : World} {base : Nat} {e : TypeId} {size : Nat} {v : Value} {n : Nat} {xs : List Value} (h : w.ownsRow base e size v n xs) (hb : Below w.heap.size w w') : w'.ownsRow base e size v n xs := by
  obtain ⟨hl, h | ⟨g, cap, cur, hv, hg, hh, r⟩⟩ := h
  · exact ⟨hl, .inl h⟩
  · exact ⟨hl, .inr ⟨g, cap, cur, hv, hg, (hb.block g (Array.getElem?_eq_some_iff.1 hh).1).trans hh, r⟩⟩
theorem own_shapeQ {w : World} {base : Nat} {e : TypeId} {size : Nat} {v : Value} {n : Nat} {xs : List Value} (h : w.ownsRow base e size v n xs) : ∃ A c, v = .slice A n c := by
  obtain ⟨-, ⟨hv, hn⟩ | ⟨g, cap, cur, hv, -⟩⟩ := h
  · exact ⟨none, 0, by rw [hv, hn]⟩
  · exact ⟨_, _, hv⟩
theorem own_holdsQ {w : World} {base : Nat} {e : TypeId} {T : Option Addr} {n c : Nat} {xs : List Value} (h : w.ownsRow base e 1 (.slice T n c) n xs) : Holds w T xs ∧ n ≤ c := by
  obtain ⟨hl, ⟨hv, hn⟩ | ⟨g, cap, cur, hv, -, hh, h1, h2, h3, h4⟩⟩ := h
  · subst hn
    exact ⟨.inl (List.eq_nil_of_length_eq_zero (by simpa using hl)), Nat.zero_le _⟩
  · obtain ⟨rfl, rfl⟩ : T = some ⟨g, 0, none⟩ ∧ c = cap := by simpa using hv
    have hw : Whole w g e cur := hh
    refine ⟨.inr ⟨g, 0, rfl, hw.lt, fun j u hu => ?_⟩, h1⟩
    have hj : j < xs.length := (List.getElem?_eq_some_iff.1 hu).1
    rw [Nat.zero_add, hw.cell j, ← hu, ← h4, List.getElem?_take_of_lt (by omega), Array.getElem?_toList]
theorem whole_apartQ {w w' : World} {q : Nat} {ty : TypeId} {cs : Array Value} {row : Option Nat} (h : Whole w q ty cs) (hg : w.grownBy w' row) (hne : some q ≠ row) : Whole w' q ty cs := (hg.block q h.lt hne).trans h
theorem strs_snocQ (xs : List (List UInt8)) (x : List UInt8) : strs xs ++ [.string (strOf x)] = strs (xs ++ [x]) := by simp [strs]
/-- append onto a list of the call's own, as a step of a region that draws its order. -/
theorem step_append_mineQ {P : Program} {ops : Array Oper} {o : Oper} {a : Act} {w : World} {K : Act → World → Prop} {Q : Exit → Act → World → Prop} {E : Prop}
    (hg : o.guard = none) (s x : Operand) (t : TypeId) (hop : o.op = Op.call { callee := Callee.builtin Builtin.append, args := #[s, x], argTypes := #[t, t] })
    (base : Nat) (e : TypeId) (i : TypeInfo) (z : Value) (size bytes : Nat) (h1 : P.underlying t = some (.slice e)) (h2 : P.info? e = some i) (h3 : i.zero = some z) (h4 : i.size = size) (h5 : i.bytes = bytes) (h6 : z.cells.size = size) (h7 : 0 < size)
    (v : Value) (n : Nat) (xs : List Value) (hs : a.eval s = v) (hown : w.ownsRow base e size v n xs)
    (ad : Addr) (m c : Nat) (news : List Value) (hx : a.eval x = .slice (some ad) m c) (hn : news.length = m * size) (hc : ∀ j u, news[j]? = some u → w.cell? (ad.add j) = some u) (h1c : ∀ u ∈ news, u.oneCell' = true)
    (b1 : n + m ≤ maxLen) (b2 : (n + m) * bytes ≤ 140737488355328) (b3 : base ≤ w.heap.size)
    (hK : ∀ v' w', w'.ownsRow base e size v' (n + m) (xs ++ news) → w.grownBy w' v.ownBlock → K (a.put o.dst v') w') :
    if Region.wanted o (yielded ops a.tmps) = true then Oper.wp P o a w K Q else E := by
  have hw : Region.wanted o (yielded ops a.tmps) = true := by simp [Region.wanted, hg]
  rw [if_pos hw]
  obtain ⟨v', w', hrun, r1, r2, _⟩ := run_append_own (P := P) w base t o.type e i z size bytes h1 h2 h3 h4 h5 h6 h7 v n xs hown ad m c news hn hc h1c b1 b2 b3
  unfold Oper.wp
  simp [execOp, hop, resolve, invoke, builtin, hs, hx, hrun, Result.andThen]
  exact hK v' w' r1 r2
end Go.Proofs.YtedkanncdkofaaaDoor

namespace Go.Proofs.YtedkanncdkofaaaDoor
open Go.RowKit

set_option linter.unusedSimpArgs false in
set_option maxHeartbeats 3200000 in
set_option maxRecDepth 100000 in
theorem implKeepText_any (k0 s : Int) (A : Option Addr) (n c : Nat) (rs : List RowV) (w : World) (hA : Grid w A rs) (hx : rs.length = n) (hn : n ≤ 1048576) (hT : Tab w) :
    Calls Tryd.prog 25 #[.agg #[.int .i64 k0, .slice A n c, .int .i64 s]] w (TextPost (keepTextOf k0 s (rowNums rs)) (keepOk k0 s (rowNums rs)) w) := by
  have HX := Lib.hid hx
  have hA2 := hA.alloc (.cells #[.int .i64 k0, .slice A n c, .int .i64 s] 41)
  have h0 := Whole.fresh w 41 #[.int .i64 k0, .slice A n c, .int .i64 s]
  obtain ⟨c0, c1, c2⟩ := h0.cells3
  have ht0 := below1 w (.cells #[.int .i64 k0, .slice A n c, .int .i64 s] 41)
  clear hx
  go_enter Tryd.func25, Tryd.ntmps25
  go_wp2_with fail
  refine (isKeep_any k0 s A n c rs _ hA2 HX.out hn).mono ?_
  rintro e w1 ⟨rfl, hb⟩
  have ht := below_then ht0 hb (by simp)
  replace h0 := h0.below hb
  clear hb ht0 c0 c1 c2 hA2
  obtain ⟨c0, c1, c2⟩ := h0.cells3
  cases hp : keepOk k0 s (rowNums rs)
  · have HO := Lib.hid (show keepTextOf k0 s (rowNums rs) = [] by simp [keepTextOf, hp])
    have HP := Lib.hid hp
    clear hp
    go_wp2
    go_ret2
    exact ⟨by rw [HO.out, HP.out]; rfl, ht⟩
  · have HO := Lib.hid (show keepTextOf k0 s (rowNums rs) = keepText k0 s (rowNums rs) by simp [keepTextOf, hp])
    obtain ⟨⟨g1, g2, g3, g4⟩, -⟩ := keepOk_iff.1 hp
    have HP := Lib.hid hp
    have HDG := Lib.hid (fun (j : Nat) (hj : j < (rowNums rs).length) => dg_at hp hj)
    have HML := Lib.hid (show ((rowNums rs).map dgText).length = n by rw [List.length_map, rowNums_len, HX.out])
    have hle := join_le ((rowNums rs).map dgText) [46] 2 (dgs_le hp)
    rw [HML.out] at hle
    have HLE := Lib.hid (show (Lib.join ((rowNums rs).map dgText) [46]).length ≤ 3145728 by simp at hle; omega)
    have hwz : w.heap.size ≤ w1.heap.size := ht.size
    have hbl0 := h0.lt
    obtain ⟨i0, hi, hz0, hz1, hz2⟩ := info_parts info_string
    have HI := Lib.hid hi
    have HZ0 := Lib.hid hz0
    have HZ1 := Lib.hid hz1
    have HZ2 := Lib.hid hz2
    clear hp hle hi hz0 hz1 hz2
    go_wp2
    go_loopw [4, 13] (fun v i wr => ∃ (k : Nat) (G : Option Addr) (z : Nat), k ≤ n ∧ i = .int .i64 k ∧ v = .slice G k z ∧ wr.ownsRow w1.heap.size 9 1 (.slice G k z) k (strs (((rowNums rs).map dgText).take k)) ∧ Whole wr w.heap.size 41 #[.int .i64 k0, .slice A n c, .int .i64 s] ∧ Below w.heap.size w wr ∧ w1.heap.size ≤ wr.heap.size) (fun _ i _ => n - (intOf i).toNat)
    case atStart => exact ⟨0, none, 0, Nat.zero_le _, rfl, rfl, World.ownsRow_nil _ _ _ _, h0, ht, Nat.le_refl _⟩
    case round =>
      obtain ⟨k, G, z, hk, rfl, rfl, hown, hq, hb, hsz⟩ := hrel
      clear c0 c1 c2 h0 ht
      by_cases hlt : k < n
      · have hkx : k < rs.length := by have := HX.out; omega
        have hkr : k < (rowNums rs).length := by rw [rowNums_len]; exact hkx
        have hkm : k < ((rowNums rs).map dgText).length := by have := HML.out; omega
        obtain ⟨b1, o1, rfl, hbl1, hc, hok⟩ := hA.look hkx
        have hdg := HDG.out k hkr
        have HNX := Lib.hid (List.take_succ_eq_append_getElem hkm)
        rw [show ((rowNums rs).map dgText)[k] = dgText (rowNums rs)[k] by simp] at HNX
        rw [rowNums_get hkx] at hdg HNX
        generalize rs[k] = r at hc hok hdg HNX
        obtain ⟨B1, n1, d1, x1⟩ := r
        obtain ⟨ok1, ok2, ok3⟩ := hok
        dsimp only at hc ok1 ok2 ok3 hdg HNX
        obtain ⟨a, b, rfl, ha0, hab, hbk⟩ := dg_two hdg
        obtain rfl : 2 = n1 := ok2
        obtain ⟨b2, o2, rfl, hbl2, e0⟩ := ok1.look (k := 0) (by simp [nums])
        obtain ⟨b3, o3, he, -, e1⟩ := ok1.look (k := 1) (by simp [nums])
        cases he
        have e0w : w.cell? ⟨b2, o2, none⟩ = some (.int .i64 a) := e0
        have e1w : w.cell? ⟨b2, o2 + 1, none⟩ = some (.int .i64 b) := e1
        have hcr := (hb.cell (p := ⟨b1, o1 + k, none⟩) hbl1).trans hc
        have e0r := (hb.cell (p := ⟨b2, o2, none⟩) hbl2).trans e0w
        have e1r := (hb.cell (p := ⟨b2, o2 + 1, none⟩) hbl2).trans e1w
        have d1l := digs_one (n := a) (by omega)
        have d2l := digs_one (n := b) (by omega)
        have s4 := cat_to (digs a) (digs b) (dgText [a, b]) rfl (by omega) (by omega)
        generalize dgText [a, b] = R at s4 HNX
        have HMAX := Lib.hid (show k + 1 ≤ maxLen by unfold maxLen; omega)
        have HBYT := Lib.hid (show (k + 1) * 16 ≤ 140737488355328 by omega)
        have ha1 : a ≤ 9223372036854775807 := by omega
        have hb0 : 0 ≤ b := by omega
        have hb1 : b ≤ 9223372036854775807 := by omega
        clear hdg e0 e1 hc ok1
        go_wp2_with fail
        refine wp_region_held_drew (S := (fun w' => w'.cell? ⟨b2, o2, none⟩ = some (.int .i64 a) ∧ w'.cell? ⟨b2, o2 + 1, none⟩ = some (.int .i64 b))) (by kernel_rfl) (by exact ⟨e0r, e1r⟩) (fun hHeld => ?_)
        replace hb := hb.drew
        replace hq := hq.drew
        replace hown := own_belowQ hown (Below.refl _ _).drew
        replace hsz : w1.heap.size ≤ (World.drew wr).heap.size := hsz
        generalize World.drew wr = wd at hb hq hown hsz hHeld ⊢
        clear e0r e1r hcr
        refine wpAnyH_take (i := 0) (v := ?_) rfl (by kernel_rfl) (by kernel_rfl) (by kernel_rfl) (fun _ _ _ h => h) (Or.inl ⟨rfl, ?_⟩) hHeld ?_
        rotate_left
        · intro w' hS; obtain ⟨q0_, q1_⟩ := hS; go_simp <;> with_reducible rfl
        simp only [Act.put, List.getElem_toArray, List.getElem_cons_succ, List.getElem_cons_zero, List.setIfInBounds_toArray, List.set_cons_succ, List.set_cons_zero]
        refine wpAnyH_take (i := 1) (v := ?_) rfl (by kernel_rfl) (by kernel_rfl) (by kernel_rfl) (fun _ _ _ h => h) (Or.inl ⟨rfl, ?_⟩) hHeld ?_
        rotate_left
        · intro w' hS; obtain ⟨q0_, q1_⟩ := hS; go_simp <;> with_reducible rfl
        simp only [Act.put, List.getElem_toArray, List.getElem_cons_succ, List.getElem_cons_zero, List.setIfInBounds_toArray, List.set_cons_succ, List.set_cons_zero]
        refine wpAnyH_take (i := 2) (v := ?_) rfl (by kernel_rfl) (by kernel_rfl) (by kernel_rfl) (fun _ _ _ h => h) (Or.inl ⟨rfl, ?_⟩) hHeld ?_
        rotate_left
        · intro w' hS; obtain ⟨q0_, q1_⟩ := hS; go_simp <;> with_reducible rfl
        simp only [Act.put, List.getElem_toArray, List.getElem_cons_succ, List.getElem_cons_zero, List.setIfInBounds_toArray, List.set_cons_succ, List.set_cons_zero]
        refine wpAnyH_take (i := 3) (v := ?_) rfl (by kernel_rfl) (by kernel_rfl) (by kernel_rfl) (fun _ _ _ h => h) (Or.inl ⟨rfl, ?_⟩) hHeld ?_
        rotate_left
        · intro w' hS; obtain ⟨q0_, q1_⟩ := hS; go_simp <;> with_reducible rfl
        simp only [Act.put, List.getElem_toArray, List.getElem_cons_succ, List.getElem_cons_zero, List.setIfInBounds_toArray, List.set_cons_succ, List.set_cons_zero]
        refine wpAnyH_take (i := 5) (v := ?_) rfl (by kernel_rfl) (by kernel_rfl) (by kernel_rfl) (fun _ _ _ h => h) (Or.inl ⟨rfl, ?_⟩) hHeld ?_
        rotate_left
        · intro w' hS; obtain ⟨q0_, q1_⟩ := hS; go_simp <;> with_reducible rfl
        simp only [Act.put, List.getElem_toArray, List.getElem_cons_succ, List.getElem_cons_zero, List.setIfInBounds_toArray, List.set_cons_succ, List.set_cons_zero]
        refine wpAnyH_take (i := 6) (v := ?_) rfl (by kernel_rfl) (by kernel_rfl) (by kernel_rfl) (fun _ _ _ h => h) (Or.inl ⟨rfl, ?_⟩) hHeld ?_
        rotate_left
        · intro w' hS; obtain ⟨q0_, q1_⟩ := hS; go_simp <;> with_reducible rfl
        simp only [Act.put, List.getElem_toArray, List.getElem_cons_succ, List.getElem_cons_zero, List.setIfInBounds_toArray, List.set_cons_succ, List.set_cons_zero]
        refine wpAnyH_take (i := 7) (v := ?_) rfl (by kernel_rfl) (by kernel_rfl) (by kernel_rfl) (fun _ _ _ h => h) (Or.inl ⟨rfl, ?_⟩) hHeld ?_
        rotate_left
        · intro w' hS; obtain ⟨q0_, q1_⟩ := hS; go_simp <;> with_reducible rfl
        simp only [Act.put, List.getElem_toArray, List.getElem_cons_succ, List.getElem_cons_zero, List.setIfInBounds_toArray, List.set_cons_succ, List.set_cons_zero]
        refine wpAnyH_ready (rs := [4]) (by kernel_rfl) (by simp) (AllReadyH.cons rfl (fun K hK => ?_) AllReadyH.nil)
        go_simp
        refine (itoa_any a _ (hT.below hb) ha0 ha1).mono ?_
        rintro e wd4 ⟨rfl, hbi⟩
        replace hown := own_belowQ hown hbi
        replace hq := hq.below hbi
        replace hsz : w1.heap.size ≤ wd4.heap.size := Nat.le_trans hsz hbi.size
        replace hb := below_then hb hbi hb.size
        clear hbi
        refine hK.out _ _ ⟨(hb.cell (p := ⟨b2, o2, none⟩) hbl2).trans e0w, (hb.cell (p := ⟨b2, o2 + 1, none⟩) hbl2).trans e1w⟩ (fun hHeld => ?_)
        clear hK K
        try simp only [Act.put, List.getElem_toArray, List.getElem_cons_succ, List.getElem_cons_zero, List.setIfInBounds_toArray, List.set_cons_succ, List.set_cons_zero]
        refine wpAnyH_ready (rs := [8]) (by kernel_rfl) (by simp) (AllReadyH.cons rfl (fun K hK => ?_) AllReadyH.nil)
        go_simp
        refine (itoa_any b _ (hT.below hb) hb0 hb1).mono ?_
        rintro e wd8 ⟨rfl, hbi⟩
        replace hown := own_belowQ hown hbi
        replace hq := hq.below hbi
        replace hsz : w1.heap.size ≤ wd8.heap.size := Nat.le_trans hsz hbi.size
        replace hb := below_then hb hbi hb.size
        clear hbi
        refine hK.out _ _ ⟨(hb.cell (p := ⟨b2, o2, none⟩) hbl2).trans e0w, (hb.cell (p := ⟨b2, o2 + 1, none⟩) hbl2).trans e1w⟩ (fun hHeld => ?_)
        clear hK K
        try simp only [Act.put, List.getElem_toArray, List.getElem_cons_succ, List.getElem_cons_zero, List.setIfInBounds_toArray, List.set_cons_succ, List.set_cons_zero]
        refine wpAnyH_take (i := 9) (v := ?_) rfl (by kernel_rfl) (by kernel_rfl) (by kernel_rfl) (fun _ _ _ h => h) (Or.inl ⟨rfl, ?_⟩) hHeld ?_
        rotate_left
        · intro w' hS; obtain ⟨q0_, q1_⟩ := hS; go_simp <;> with_reducible rfl
        simp only [Act.put, List.getElem_toArray, List.getElem_cons_succ, List.getElem_cons_zero, List.setIfInBounds_toArray, List.set_cons_succ, List.set_cons_zero]
        refine wpAnyH_ready (rs := [10]) (by kernel_rfl) (by simp) (AllReadyH.cons rfl (fun K hK => ?_) AllReadyH.nil)
        go_simp
        have hN := Whole.fresh wd8 9 #[.string (strOf R)]
        obtain ⟨gN, hgN⟩ : ∃ g, g = wd8.heap.size := ⟨_, rfl⟩
        rw [← hgN] at hN ⊢
        clear hgN
        replace hown := hown.alloc (.cells #[.string (strOf R)] 9)
        replace hq := hq.alloc (.cells #[.string (strOf R)] 9)
        replace hb := hb.alloc hb.size (.cells #[.string (strOf R)] 9)
        replace hsz : w1.heap.size ≤ (World.alloc wd8 (.cells #[.string (strOf R)] 9)).heap.size := by simp; omega
        generalize World.alloc wd8 (.cells #[.string (strOf R)] 9) = wd10 at hN hown hq hb hsz ⊢
        refine hK.out _ _ ⟨(hb.cell (p := ⟨b2, o2, none⟩) hbl2).trans e0w, (hb.cell (p := ⟨b2, o2 + 1, none⟩) hbl2).trans e1w⟩ (fun hHeld => ?_)
        clear hK K
        try simp only [Act.put, List.getElem_toArray, List.getElem_cons_succ, List.getElem_cons_zero, List.setIfInBounds_toArray, List.set_cons_succ, List.set_cons_zero]
        refine wpAnyH_ready (rs := [11]) (by kernel_rfl) (by simp) (AllReadyH.cons rfl (fun K hK => ?_) AllReadyH.nil)
        have HNW : Hid (∀ j u, ([.string (strOf R)] : List Value)[j]? = some u → wd10.cell? ((⟨gN, 0, none⟩ : Addr).add j) = some u) := fun j u hu => by rw [Addr.add_lit, Nat.zero_add]; exact (hN.cell j).trans (by simpa using hu)
        refine step_append_mineQ rfl (.tmp 17) (.tmp 27) 89 rfl w1.heap.size 9 i0 (.string ByteArray.empty) 1 16 Tryd.underlying89 HI.out HZ0.out HZ1.out HZ2.out rfl (by decide) (.slice G k z) k (strs (((rowNums rs).map dgText).take k)) (by simp [Act.eval]) (by exact hown) ⟨gN, 0, none⟩ 1 1 [.string (strOf R)] (by simp [Act.eval]) rfl HNW.out (by simp [Value.oneCell']) HMAX.out HBYT.out hsz ?_
        intro v7 wd11 hown7 hgr7
        obtain ⟨D, y, rfl⟩ := own_shapeQ hown7
        have hrow : ∀ y, (.slice G k z : Value).ownBlock = some y → w1.heap.size ≤ y := fun y hy => (hown.lt y hy).1
        replace hb := hb.grown hgr7 hb.size (fun y hy => Nat.le_trans hwz (hrow y hy))
        replace hq := whole_apartQ hq hgr7 (fun e => absurd (hrow _ e.symm) (by omega))
        replace hsz : w1.heap.size ≤ wd11.heap.size := Nat.le_trans hsz hgr7.size
        rw [strs_snocQ, ← HNX.out] at hown7
        clear hown hrow hgr7 hN HNW
        refine hK.out _ _ ⟨(hb.cell (p := ⟨b2, o2, none⟩) hbl2).trans e0w, (hb.cell (p := ⟨b2, o2 + 1, none⟩) hbl2).trans e1w⟩ (fun hHeld => ?_)
        clear hK K
        try simp only [Act.put, List.getElem_toArray, List.getElem_cons_succ, List.getElem_cons_zero, List.setIfInBounds_toArray, List.set_cons_succ, List.set_cons_zero]
        refine wpAnyH_take (i := 12) (v := ?_) rfl (by kernel_rfl) (by kernel_rfl) (by kernel_rfl) (fun _ _ _ h => h) (Or.inl ⟨rfl, ?_⟩) hHeld ?_
        rotate_left
        · intro w' hS; obtain ⟨q0_, q1_⟩ := hS; go_simp <;> with_reducible rfl
        simp only [Act.put, List.getElem_toArray, List.getElem_cons_succ, List.getElem_cons_zero, List.setIfInBounds_toArray, List.set_cons_succ, List.set_cons_zero]
        refine wpAnyH_done (by kernel_rfl) ?_ _
        clear hHeld
        clear s4
        go_wp2_with fail
        go_roundw
        case rel => exact ⟨k + 1, D, y, by omega, by go_num, rfl, hown7, hq, hb, hsz⟩
        case measure => simp [intOf]; omega
      · obtain rfl : k = n := by omega
        rw [List.take_of_length_le (by rw [HML.out]; exact Nat.le_refl _)] at hown
        obtain ⟨c0, c1, c2⟩ := hq.cells3
        have e1 := digs_one (n := k0) (by omega)
        have e2 := digs_one (n := s) (by omega)
        obtain ⟨M1, hM1⟩ : ∃ M, M = digs k0 ++ [47] := ⟨_, rfl⟩
        have s1 := cat_to (digs k0) [47] M1 hM1 (by omega) (by simp)
        obtain ⟨M2, hM2⟩ : ∃ M, M = M1 ++ digs s := ⟨_, rfl⟩
        have s2 := cat_to M1 (digs s) M2 hM2 (by rw [hM1]; simp; omega) (by omega)
        obtain ⟨H, hH⟩ : ∃ H, H = keepHead k0 s := ⟨_, rfl⟩
        have hHl := keepHead_le g2 g4
        rw [← hH] at hHl
        have s3 := cat_to M2 [47] H (by rw [hH, hM2, hM1]; rfl) (by rw [hM2, hM1]; simp; omega) (by simp)
        have s5 := cat_big H (Lib.join ((rowNums rs).map dgText) [46]) (keepText k0 s (rowNums rs)) (by rw [hH]; rfl) (by omega) (by have := HLE.out; omega)
        obtain ⟨hhold, hcap⟩ := own_holdsQ hown
        have ht := hb
        have HHO := Lib.hid hhold
        have HCA := Lib.hid hcap
        clear hM1 hM2 hH hHl e1 e2 hown hb hhold hcap
        go_wp2_with fail
        go_region_held3 (fun w' => w'.cell? ⟨w.heap.size, 0, none⟩ = some (.int .i64 k0) ∧ w'.cell? ⟨w.heap.size, 2, none⟩ = some (.int .i64 s)) (go_keep)
          (first | (go_at_call 63; with_reducible refine (itoa_any k0 _ (hT.below ht.drew) g1 (by omega)).mono ?_; rintro e w3 ⟨rfl, hb3⟩; have ht3 := below_then ht.drew hb3 ht.drew.size; obtain ⟨k10, k11, k12⟩ := (hq.drew.below hb3).cells3) | (go_at_call 63; with_reducible refine (itoa_any s _ (hT.below ht3) g3 (by omega)).mono ?_; rintro e w4 ⟨rfl, hb4⟩; have ht4 := below_then ht3 hb4 ht3.size; obtain ⟨k20, k21, k22⟩ := ((hq.drew.below hb3).below hb4).cells3) | (go_at_call 64; refine (join_any _ k z ((rowNums rs).map dgText) 46 _ (by exact (HHO.out.drew.below hb3).below hb4) HML.out hn HCA.out (by have := HLE.out; omega)).mono ?_; rintro e w5 ⟨rfl, hb5⟩; have ht5 := below_then ht4 hb5 ht4.size; obtain ⟨k30, k31, k32⟩ := (((hq.drew.below hb3).below hb4).below hb5).cells3))
        clear s1 s2 s3 s5 c0 c1 c2
        go_wp2
        go_ret2
        exact ⟨by rw [HO.out, HP.out]; rfl, ht5⟩
theorem specKeepText_on (k0 s : Int) (A : Option Addr) (n c : Nat) (rs : List RowV) (ls : List (List Int)) (w : World) (hA : Grid w A rs) (he : rowNums rs = ls) (hx : rs.length = n) (hn : n ≤ 1048576) :
    Calls Tryd.prog 23 #[.agg #[.int .i64 k0, .slice A n c, .int .i64 s]] w (TextPost (keepTextOf k0 s ls) (keepOk k0 s ls) w) := by
  subst he
  exact specKeepText_any k0 s A n c rs w hA hx hn
theorem implKeepText_on (k0 s : Int) (A : Option Addr) (n c : Nat) (rs : List RowV) (ls : List (List Int)) (w : World) (hA : Grid w A rs) (he : rowNums rs = ls) (hx : rs.length = n) (hn : n ≤ 1048576) (hT : Tab w) :
    Calls Tryd.prog 25 #[.agg #[.int .i64 k0, .slice A n c, .int .i64 s]] w (TextPost (keepTextOf k0 s ls) (keepOk k0 s ls) w) := by
  subst he
  exact implKeepText_any k0 s A n c rs w hA hx hn hT
end Go.Proofs.YtedkanncdkofaaaDoor

namespace Go.Proofs.YtedkanncdkofaaaDoor
open Go.RowKit

theorem OwnGrid.set_out {w : World} {g hi b o : Nat} {u : Value} {rs : List RowV} (h : OwnGrid w g hi rs) (hb : b < g) : OwnGrid (w.setCell ⟨b, o, none⟩ u) g hi rs :=
  ⟨h.1.off (by omega), h.2.set_out (.inl (by omega))⟩

set_option maxHeartbeats 800000 in
theorem szKeep_any (k : Int) (A : Option Addr) (n c : Nat) (rs : List RowV) (s l : Int) (w : World) (hA : Grid w A rs) (hx : rs.length = n) (hn : n ≤ 9223372036854775807) (h0 : 0 ≤ l) (h1 : l ≤ 1048576) :
    Calls Tryd.prog 22 #[.agg #[.int .i64 k, .slice A n c, .int .i64 s], .int .i64 l] w fun e w' => e = .returned (.int .i64 (if l - (total rs : Int) < 0 then -1 else l - (total rs : Int))) ∧ Below w.heap.size w w' := by
  have HX := Lib.hid hx
  clear hx
  by_cases h : l - (total rs : Int) < 0
  · have hb1 := below1 w (.cells #[.int .i64 k, .slice A n c, .int .i64 s] 38)
    go_enter Tryd.func22, Tryd.ntmps22
    go_wp2_with fail
    refine (szIntSS_any A n c rs l _ (hA.below hb1) HX.out hn h0 h1).mono ?_
    rintro e w' ⟨rfl, rfl⟩
    rw [totalLeft, if_pos (by omega)]
    go_wp2
    go_ret
    exact ⟨rfl, hb1⟩
  · have hb1 := below1 w (.cells #[.int .i64 k, .slice A n c, .int .i64 s] 38)
    have h' : ¬ l - (total rs : Int) < 0 := h
    go_enter Tryd.func22, Tryd.ntmps22
    go_wp2_with fail
    refine (szIntSS_any A n c rs l _ (hA.below hb1) HX.out hn h0 h1).mono ?_
    rintro e w' ⟨rfl, rfl⟩
    rw [totalLeft, if_neg (by omega)]
    go_wp2
    go_ret
    exact ⟨rfl, hb1⟩

/-- What toKeep hands back. -/
def KeepTo (k : Int) (n : Nat) (s : Int) (rs : List RowV) (w : World) (e : Ending) (w' : World) : Prop :=
  ∃ (g : Nat) (ws : List RowV), e = .returned (.agg #[.int .i64 k, .slice (some ⟨g, 0, none⟩) n n, .int .i64 s]) ∧ w.heap.size ≤ g ∧ OwnGrid w' g w'.heap.size ws ∧ rowNums ws = rowNums rs ∧ ws.length = n ∧ Below w.heap.size w w'

set_option maxHeartbeats 800000 in
theorem toKeep_own (k : Int) (A : Option Addr) (n c : Nat) (rs : List RowV) (s : Int) (w : World) (hA : Grid w A rs) (hx : rs.length = n) (ht : total rs ≤ 1048576) :
    Calls Tryd.prog 24 #[.agg #[.int .i64 k, .slice A n c, .int .i64 s]] w (KeepTo k n s rs w) := by
  have HX := Lib.hid hx
  clear hx
  go_enter Tryd.func24, Tryd.ntmps24
  go_wp2_with fail
  refine (toIntSS_any A n c rs _ (by exact hA.below (below3 w _ _ _)) HX.out ht).mono ?_
  rintro e w1 ⟨g, ws, rfl, hg, hw, he, hl, hb⟩
  obtain ⟨hc, hf⟩ := kept hb
  have hg' : w.heap.size + 3 ≤ g := by simpa using hg
  have hz : w.heap.size + 3 ≤ w1.heap.size := by have := hb.size; simpa using this
  have HB := Lib.hid (below_then (below3 w _ _ _) hb (by simp; omega))
  have HG := Lib.hid hw
  have HE := Lib.hid he
  have HL := Lib.hid hl
  clear hw hg he hl hb
  go_wp2
  refine bodyPost_ret (v := .agg #[.int .i64 k, .slice (some ⟨g, 0, none⟩) n n, .int .i64 s]) (by simp [results, Tryd.results24, go_sem, hc]) rfl ⟨g, ws, rfl, by omega, ?_, HE.out, HL.out, ?_⟩
  · have h := (((((HG.out.set_out (b := w.heap.size + 1 + 1) (o := 1) (u := .slice (some ⟨g, 0, none⟩) n n) (by omega)).set_out (b := w.heap.size + 1 + 1) (o := 2) (u := .int .i64 s) (by omega)).set_out (b := w.heap.size + 1) (o := 0) (u := .int .i64 k) (by omega)).set_out (b := w.heap.size + 1) (o := 1) (u := .slice (some ⟨g, 0, none⟩) n n) (by omega)).set_out (b := w.heap.size + 1) (o := 2) (u := .int .i64 s) (by omega))
    simpa [World.setCell] using h
  · exact below_set (below_set (below_set (below_set (below_set HB.out (by omega)) (by omega)) (by omega)) (by omega)) (by omega)

set_option maxHeartbeats 800000 in
theorem eqKeep_yes (k : Int) (A B : Option Addr) (n m c d : Nat) (s : Int) (rs ss : List RowV) (w : World) (hA : Grid w A rs) (hB : Grid w B ss) (he : rowNums rs = rowNums ss) (hx : rs.length = n) (hy : ss.length = m) (hn : n ≤ 9223372036854775807) :
    Calls Tryd.prog 26 #[.agg #[.int .i64 k, .slice A n c, .int .i64 s], .agg #[.int .i64 k, .slice B m d, .int .i64 s]] w fun e w' => e = .returned (.bool true) ∧ Below w.heap.size w w' := by
  have HX := Lib.hid hx
  have HY := Lib.hid hy
  have HE := Lib.hid he
  clear hx hy he
  have hkk : (!(k == k)) = false := by simp
  have hss : (!(s == s)) = false := by simp
  have hb2 := below2 w (.cells #[.int .i64 k, .slice A n c, .int .i64 s] 41) (.cells #[.int .i64 k, .slice B m d, .int .i64 s] 41)
  have h0 := (Whole.fresh w 41 #[.int .i64 k, .slice A n c, .int .i64 s]).alloc (.cells #[.int .i64 k, .slice B m d, .int .i64 s] 41)
  have h1 := Whole.fresh (w.alloc (.cells #[.int .i64 k, .slice A n c, .int .i64 s] 41)) 41 #[.int .i64 k, .slice B m d, .int .i64 s]
  rw [World.size_alloc] at h1
  go_enter Tryd.func26, Tryd.ntmps26
  go_wp2_with fail
  refine (eqIntSS_yes A B n m c d rs ss _ (by exact hA.below hb2) (by exact hB.below hb2) HE.out HX.out HY.out hn).mono ?_
  rintro e w1 ⟨rfl, hb⟩
  have ht := below_then hb2 hb (by simp; omega)
  obtain ⟨a0, a1, a2⟩ := (h0.below hb).cells3
  obtain ⟨b0, b1, b2⟩ := (h1.below hb).cells3
  go_wp2
  go_ret
  exact ⟨rfl, ht⟩

set_option maxHeartbeats 800000 in
theorem markKeep_any (k s : Int) (A : Option Addr) (n c lo hi : Nat) (rs : List RowV) (q : Int) (w : World) (hf : FreeGrid w lo hi A rs) (hx : rs.length = n) (h0 : 0 ≤ q) (h1 : q ≤ 2305843009213693952) (hn : n ≤ 1048576) (hp : part rs rs.length ≤ 1048576) :
    Calls Tryd.prog 29 #[.agg #[.int .i64 k, .slice A n c, .int .i64 s], .int .i64 q] w fun e w' => e = .returned (.int .i64 (q + (part rs rs.length : Nat))) ∧ Span lo hi w w' ∧ FreeGrid w' lo hi A (markTo q rs rs.length) := by
  have HX := Lib.hid hx
  clear hx
  go_enter Tryd.func29, Tryd.ntmps29
  go_wp2_with fail
  refine (markIntSS_any A n c lo hi rs q _ (hf.alloc _) HX.out h0 h1 hn hp).mono ?_
  rintro e w1 ⟨rfl, hs, hf1⟩
  go_wp2
  go_ret
  exact ⟨rfl, (Span.of_below (below1 w _) lo hi).trans hs, hf1⟩

set_option maxHeartbeats 800000 in
theorem heldKeep_any (k s : Int) (A : Option Addr) (n c : Nat) (rs : List RowV) (q : Int) (w : World) (hA : Grid w A (markTo q rs rs.length)) (hx : rs.length = n) (h0 : 0 ≤ q) (h1 : q ≤ 2305843009213693952) (hn : n ≤ 1048576) (hp : part rs rs.length ≤ 1048576) :
    Calls Tryd.prog 30 #[.agg #[.int .i64 k, .slice A n c, .int .i64 s], .int .i64 q] w fun e w' => e = .returned (.int .i64 (q + (part rs rs.length : Nat))) ∧ Below w.heap.size w w' := by
  have HX := Lib.hid hx
  have hq0 : (0 : Int) ≤ q + (part rs rs.length : Nat) := by omega
  clear hx
  have hb1 := below1 w (.cells #[.int .i64 k, .slice A n c, .int .i64 s] 41)
  go_enter Tryd.func30, Tryd.ntmps30
  go_wp2_with fail
  refine (heldIntSS_any A n c rs q _ (hA.below hb1) HX.out h0 h1 hn hp).mono ?_
  rintro e w1 ⟨rfl, hb⟩
  have ht := below_then hb1 hb (by simp)
  go_wp2
  go_ret
  exact ⟨rfl, ht⟩
end Go.Proofs.YtedkanncdkofaaaDoor

namespace Go.Proofs.YtedkanncdkofaaaDoor
open Go.RowKit

set_option maxHeartbeats 800000 in
set_option linter.unusedVariables false in
theorem lawKeepText_big0 (k0 : Int) (A0 : Option Addr) (n0 c0 : Nat) (x0 : List RowV) (k1 : Int) (w : World) (h0 : Grid w A0 x0) (hx0 : x0.length = n0) (hn0 : n0 ≤ 9223372036854775807) (hT : Tab w)  (hbig : 1048576 - (total x0 : Int) < 0) :
    Calls Tryd.prog 5 #[.agg #[.int .i64 k0, .slice A0 n0 c0, .int .i64 k1]] w fun e w' => e = .returned (.bool true) ∧ Below w.heap.size w w' := by
  have hb0 := (Whole.fresh w 38 #[.int .i64 k0, .slice A0 n0 c0, .int .i64 k1])
  have ht := below1 w (.cells #[.int .i64 k0, .slice A0 n0 c0, .int .i64 k1] 38)
  have HX0 := Lib.hid hx0
  clear hx0
  obtain ⟨hb0_0, hb0_1, hb0_2⟩ := hb0.cells3
  have hb0_l := hb0.lt
  go_enter Tryd.func5, Tryd.ntmps5
  go_wp2_with fail
  refine (szKeep_any k0 A0 n0 c0 x0 k1 (1048576) _ (by exact h0.below ht) HX0.out (by omega) (by omega) (by omega)).mono ?_
  rintro e v1 ⟨rfl, hb⟩
  rw [if_pos (by omega)]
  have hz1 : w.heap.size + 1 ≤ v1.heap.size := by have := hb.size; simpa using this
  replace ht := below_then ht hb ht.size
  replace hb0 := hb0.below hb
  clear hb
  clear hb0_0 hb0_1 hb0_2 hb0_l
  go_wp2
  go_ret
  exact ⟨rfl, ht⟩

set_option maxHeartbeats 12800000 in
set_option maxRecDepth 100000 in
set_option linter.unusedSimpArgs false in
set_option linter.unusedVariables false in
theorem lawKeepText_small (k0 : Int) (A0 : Option Addr) (n0 c0 : Nat) (x0 : List RowV) (k1 : Int) (w : World) (h0 : Grid w A0 x0) (hx0 : x0.length = n0) (hn0 : n0 ≤ 9223372036854775807) (hT : Tab w) (g0 : 0 ≤ 1048576 - (total x0 : Int)) :
    Calls Tryd.prog 5 #[.agg #[.int .i64 k0, .slice A0 n0 c0, .int .i64 k1]] w fun e w' => e = .returned (.bool true) ∧ Below w.heap.size w w' := by
  have hb0 := (Whole.fresh w 38 #[.int .i64 k0, .slice A0 n0 c0, .int .i64 k1])
  have ht := below1 w (.cells #[.int .i64 k0, .slice A0 n0 c0, .int .i64 k1] 38)
  have HX0 := Lib.hid hx0
  clear hx0
  obtain ⟨hb0_0, hb0_1, hb0_2⟩ := hb0.cells3
  have hb0_l := hb0.lt
  go_enter Tryd.func5, Tryd.ntmps5
  -- region 2
  go_wp2_with fail
  refine (szKeep_any k0 A0 n0 c0 x0 k1 (1048576) _ (by exact h0.below ht) HX0.out (by omega) (by omega) (by omega)).mono ?_
  rintro e v1 ⟨rfl, hb⟩
  rw [if_neg (by omega)]
  have hz1 : w.heap.size + 1 ≤ v1.heap.size := by have := hb.size; simpa using this
  replace ht := below_then ht hb ht.size
  replace hb0 := hb0.below hb
  clear hb
  clear hb0_0 hb0_1 hb0_2 hb0_l
  obtain ⟨hb0_0, hb0_1, hb0_2⟩ := hb0.cells3
  have hb0_l := hb0.lt
  -- region 5
  go_wp2_with fail
  refine (toKeep_own k0 A0 n0 c0 x0 k1 _ (by exact h0.below ht) HX0.out (by omega)).mono ?_
  rintro e v2 ⟨gp0, wsp0, rfl, hgp0, hwp0, hep0, hlp0, hb⟩
  have hz2 : v1.heap.size ≤ v2.heap.size := by have := hb.size; simpa using this
  replace ht := below_then ht hb ht.size
  replace hb0 := hb0.below hb
  have HEp0 := Lib.hid hep0
  have HLp0 := Lib.hid hlp0
  clear hep0 hlp0
  have hp0 := hwp0.free.more (lo' := v1.heap.size) (hi' := v2.heap.size) (by simpa using hgp0) (Nat.le_refl _)
  have hcapp0 : n0 ≤ 1048576 := by have := total_len x0; have := HX0.out; omega
  clear hgp0 hwp0
  clear hb
  clear hb0_0 hb0_1 hb0_2 hb0_l
  obtain ⟨hb0_0, hb0_1, hb0_2⟩ := hb0.cells3
  have hb0_l := hb0.lt
  go_wp2_with fail
  refine (specKeepText_on k0 k1 _ n0 _ wsp0 (rowNums x0) _ (by exact hp0.grid) HEp0.out HLp0.out (by omega)).mono ?_
  rintro e v3 ⟨rfl, hb⟩
  have hz3 : v2.heap.size ≤ v3.heap.size := by have := hb.size; simpa using this
  replace ht := below_then ht hb ht.size
  replace hb0 := hb0.below hb
  replace hp0 := hp0.below hb
  clear hb
  clear hp0
  clear hb0_0 hb0_1 hb0_2 hb0_l
  obtain ⟨hb0_0, hb0_1, hb0_2⟩ := hb0.cells3
  have hb0_l := hb0.lt
  -- region 6
  go_wp2_with fail
  refine (toKeep_own k0 A0 n0 c0 x0 k1 _ (by exact h0.below ht) HX0.out (by omega)).mono ?_
  rintro e v4 ⟨gx0, wsx0, rfl, hgx0, hwx0, hex0, hlx0, hb⟩
  have hz4 : v3.heap.size ≤ v4.heap.size := by have := hb.size; simpa using this
  replace ht := below_then ht hb ht.size
  replace hb0 := hb0.below hb
  have HEx0 := Lib.hid hex0
  have HLx0 := Lib.hid hlx0
  clear hex0 hlx0
  have hx0 := hwx0.free.more (lo' := v3.heap.size) (hi' := v4.heap.size) (by simpa using hgx0) (Nat.le_refl _)
  have hcapx0 : n0 ≤ 1048576 := by have := total_len x0; have := HX0.out; omega
  clear hgx0 hwx0
  clear hb
  have hx90 := Whole.fresh v4 41 #[.int .i64 k0, .slice (some ⟨gx0, 0, none⟩) n0 n0, .int .i64 k1]
  replace ht := ht.alloc ht.size (.cells #[.int .i64 k0, .slice (some ⟨gx0, 0, none⟩) n0 n0, .int .i64 k1] 41)
  replace hb0 := hb0.alloc (.cells #[.int .i64 k0, .slice (some ⟨gx0, 0, none⟩) n0 n0, .int .i64 k1] 41)
  replace hx0 := hx0.alloc (.cells #[.int .i64 k0, .slice (some ⟨gx0, 0, none⟩) n0 n0, .int .i64 k1] 41)
  clear hb0_0 hb0_1 hb0_2 hb0_l
  obtain ⟨hb0_0, hb0_1, hb0_2⟩ := hb0.cells3
  have hb0_l := hb0.lt
  obtain ⟨hx90_0, hx90_1, hx90_2⟩ := hx90.cells3
  have hx90_l := hx90.lt
  -- region 7
  go_wp2_with fail
  refine (implKeepText_on k0 k1 _ n0 _ wsx0 (rowNums x0) _ (by exact hx0.grid) HEx0.out HLx0.out (by omega) (hT.below ht)).mono ?_
  rintro e v5 ⟨rfl, hb⟩
  have hz5 : v4.heap.size + 1 ≤ v5.heap.size := by have := hb.size; simpa using this
  replace ht := below_then ht hb ht.size
  replace hb0 := hb0.below hb
  replace hx0 := hx0.below hb
  replace hx90 := hx90.below hb
  clear hb
  clear hb0_0 hb0_1 hb0_2 hb0_l hx90_0 hx90_1 hx90_2 hx90_l
  obtain ⟨hb0_0, hb0_1, hb0_2⟩ := hb0.cells3
  have hb0_l := hb0.lt
  obtain ⟨hx90_0, hx90_1, hx90_2⟩ := hx90.cells3
  have hx90_l := hx90.lt
  -- region 10
  clear hb0_0 hb0_1 hb0_2 hb0_l hx90_0 hx90_1 hx90_2 hx90_l
  go_wp2_with fail
  refine wp_region_held_drew (S := (fun w' => w'.cell? ⟨w.heap.size, 0, none⟩ = some (.int .i64 k0) ∧ w'.cell? ⟨w.heap.size, 1, none⟩ = some (.slice A0 n0 c0) ∧ w'.cell? ⟨w.heap.size, 2, none⟩ = some (.int .i64 k1) ∧ w'.cell? ⟨v4.heap.size, 0, none⟩ = some (.int .i64 k0) ∧ w'.cell? ⟨v4.heap.size, 1, none⟩ = some (.slice (some ⟨gx0, 0, none⟩) n0 n0) ∧ w'.cell? ⟨v4.heap.size, 2, none⟩ = some (.int .i64 k1))) (by kernel_rfl) ⟨hb0.drew.cell 0, hb0.drew.cell 1, hb0.drew.cell 2, hx90.drew.cell 0, hx90.drew.cell 1, hx90.drew.cell 2⟩ (fun hHeld => ?_)
  replace ht := ht.drew
  replace hb0 := hb0.drew
  replace hx0 := hx0.drew
  replace hx90 := hx90.drew
  refine wpAnyH_take (i := 0) (v := ?_) rfl (by kernel_rfl) (by kernel_rfl) (by kernel_rfl) (fun _ _ _ h => h) (Or.inl ⟨rfl, ?_⟩) hHeld ?_
  rotate_left
  · intro w' hS; obtain ⟨s0, s1, s2, s3, s4, s5⟩ := hS; go_simp <;> with_reducible rfl
  simp only [Act.put, List.getElem_toArray, List.getElem_cons_succ, List.getElem_cons_zero, List.setIfInBounds_toArray, List.set_cons_succ, List.set_cons_zero]
  refine wpAnyH_take (i := 1) (v := ?_) rfl (by kernel_rfl) (by kernel_rfl) (by kernel_rfl) (fun _ _ _ h => h) (Or.inl ⟨rfl, ?_⟩) hHeld ?_
  rotate_left
  · intro w' hS; obtain ⟨s0, s1, s2, s3, s4, s5⟩ := hS; go_simp <;> with_reducible rfl
  simp only [Act.put, List.getElem_toArray, List.getElem_cons_succ, List.getElem_cons_zero, List.setIfInBounds_toArray, List.set_cons_succ, List.set_cons_zero]
  refine wpAnyH_ready (rs := [2]) (by kernel_rfl) (by simp) (AllReadyH.cons rfl (fun K hK => ?_) AllReadyH.nil)
  go_simp
  refine (toKeep_own k0 A0 n0 c0 x0 k1 _ (by exact h0.below ht) HX0.out (by omega)).mono ?_
  rintro e v6 ⟨gy0, wsy0, rfl, hgy0, hwy0, hey0, hly0, hb⟩
  have hz6 : v5.heap.size ≤ v6.heap.size := by have := hb.size; simpa using this
  replace ht := below_then ht hb ht.size
  replace hb0 := hb0.below hb
  replace hx0 := hx0.below hb
  replace hx90 := hx90.below hb
  have HEy0 := Lib.hid hey0
  have HLy0 := Lib.hid hly0
  clear hey0 hly0
  have hy0 := hwy0.free.more (lo' := v5.heap.size) (hi' := v6.heap.size) (by simpa using hgy0) (Nat.le_refl _)
  have hcapy0 : n0 ≤ 1048576 := by have := total_len x0; have := HX0.out; omega
  clear hgy0 hwy0
  clear hb
  refine hK.out _ _ ⟨hb0.cell 0, hb0.cell 1, hb0.cell 2, hx90.cell 0, hx90.cell 1, hx90.cell 2⟩ (fun hHeld => ?_)
  clear hK K
  try simp only [Act.put, List.getElem_toArray, List.getElem_cons_succ, List.getElem_cons_zero, List.setIfInBounds_toArray, List.set_cons_succ, List.set_cons_zero]
  refine wpAnyH_ready (rs := [3]) (by kernel_rfl) (by simp) (AllReadyH.cons rfl (fun K hK => ?_) AllReadyH.nil)
  go_simp
  refine (eqKeep_yes k0 _ _ n0 n0 _ _ k1 wsx0 wsy0 _ (by exact hx0.grid) (by exact hy0.grid) (by rw [HEx0.out, HEy0.out]) HLx0.out HLy0.out (by omega)).mono ?_
  rintro e v7 ⟨rfl, hb⟩
  have hz7 : v6.heap.size ≤ v7.heap.size := by have := hb.size; simpa using this
  replace ht := below_then ht hb ht.size
  replace hb0 := hb0.below hb
  replace hx0 := hx0.below hb
  replace hx90 := hx90.below hb
  replace hy0 := hy0.below hb
  clear hb
  clear hy0
  refine hK.out _ _ ⟨hb0.cell 0, hb0.cell 1, hb0.cell 2, hx90.cell 0, hx90.cell 1, hx90.cell 2⟩ (fun hHeld => ?_)
  clear hK K
  try simp only [Act.put, List.getElem_toArray, List.getElem_cons_succ, List.getElem_cons_zero, List.setIfInBounds_toArray, List.set_cons_succ, List.set_cons_zero]
  refine wpAnyH_take (i := 4) (v := ?_) rfl (by kernel_rfl) (by kernel_rfl) (by kernel_rfl) (fun _ _ _ h => h) (Or.inl ⟨rfl, ?_⟩) hHeld ?_
  rotate_left
  · intro w' hS; obtain ⟨s0, s1, s2, s3, s4, s5⟩ := hS; go_simp <;> with_reducible rfl
  simp only [Act.put, List.getElem_toArray, List.getElem_cons_succ, List.getElem_cons_zero, List.setIfInBounds_toArray, List.set_cons_succ, List.set_cons_zero]
  refine wpAnyH_done (by kernel_rfl) ?_ _
  clear hHeld
  obtain ⟨hb0_0, hb0_1, hb0_2⟩ := hb0.cells3
  have hb0_l := hb0.lt
  obtain ⟨hx90_0, hx90_1, hx90_2⟩ := hx90.cells3
  have hx90_l := hx90.lt
  go_wp2
  go_ret
  exact ⟨rfl, ht⟩

theorem lawKeepText_all (k0 : Int) (A0 : Option Addr) (n0 c0 : Nat) (x0 : List RowV) (k1 : Int) (w : World) (h0 : Grid w A0 x0) (hx0 : x0.length = n0) (hn0 : n0 ≤ 9223372036854775807) (hT : Tab w) :
    Calls Tryd.prog 5 #[.agg #[.int .i64 k0, .slice A0 n0 c0, .int .i64 k1]] w fun e w' => e = .returned (.bool true) ∧ Below w.heap.size w w' := by
  rcases (inferInstance : Decidable (0 ≤ 1048576 - (total x0 : Int))) with g0 | g0
  · exact lawKeepText_big0 k0 A0 n0 c0 x0 k1 w h0 hx0 hn0 hT  (by omega)
  exact lawKeepText_small k0 A0 n0 c0 x0 k1 w h0 hx0 hn0 hT g0
end Go.Proofs.YtedkanncdkofaaaDoor
