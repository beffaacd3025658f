/-
  What is proved: a contract of the model's test of a row told as a list. Conditions: at most four couples.
  What is proved: contracts of the model's test of a plan of rows. Conditions: the lists are read as they lie; at most four couples.
  What is proved: the model's test of a row, on numbers of states, and the program's list of rows, on places, tell the same rows. Conditions: at most four couples.
  What is proved: contracts of the model's party of a crew, of its test of a crew with a state, and of its test of a ride. Conditions: the arguments are read as they lie.
  What is proved: a contract of the program's place of a calm state. Conditions: the arguments are read as they lie.
  What is proved: contracts of the laws' own helpers for crews: their size, their copy, their comparison, their marks. Conditions: the given lists are read as they lie; a copy is of at most 1,048,576 values.
  What is proved: the contract of the program's place of a crew's state. Conditions: the arguments are read as they lie.
  What is proved: that the model's rows, put in one by one, are the program's, in order. Conditions: at most four couples, at most four seats, a calm state.
  What is proved: contracts of the model's order of rows (cuBefore) and of its rows (cuRows). Conditions: the lists are read as they lie; at most four couples.
  What is proved: least times over a graph are one, are the same there and back where each trip leads back in its time, and a search that settles all places (or one) that wait for the least time finds them. Conditions: each trip takes a time of at least 1.
  What is proved: the contract of the model's paGroups: some people themselves and the rising lists that go on with others. Conditions: the lists are read as they lie; at most eight others, and at most eight to begin with.
  What is proved: plain facts on lists of lists that a call hands back. Conditions: none.
  What is proved: contracts of TripsOf, of the model and of the program. Conditions: the arguments are read as they lie.
  What is proved: which trips the lists of others are, and that each trip leads back in the time in which it led there. Conditions: as each says.
  What is proved: the contract of trips made one after the other by the program. Conditions: the lists are read as they lie; at most eight people.
  What is proved: contracts of TripThatFails, of the model and of the program. Conditions: the arguments are read as they lie.
  What is proved: a contract of the model's IsCalmPlan. Conditions: the arguments are read as they lie.
  What is proved: the contract of the program's test whether lists lead over, for rivers of crews. Conditions: the lists are read as they lie.
  What is proved: the contract of trips made one after the other by the model, with the place of the state behind them. Conditions: the arguments are read as they lie; there is somebody.
-/
import Derived.Deep.RegionHeld3
import Derived.BigQuiet
import Derived.Deep.QuietTactic
import Derived.Deep.DeepCutAuto
import Derived.Laws.AppendOwnNone
import Derived.Deep.CutBlock
import Derived.Test.YtkocompjjogciaaJ3RidesOfCrew
set_option linter.unusedSimpArgs false
set_option linter.unusedVariables false
namespace Go.Proofs.Ytkocompjjogciaa
open Go.RowKit

/-- A row, told as a list. -/
noncomputable def tripM (k : Nat) (q : Int) (x : Nat) (l : List Int) : Bool := within l.length 1 q && (rising l (2 * k - 1) && canM k q x (maskOf l))
theorem tripM_no1 {k : Nat} {q : Int} {x : Nat} {l : List Int} (h : within l.length 1 q = false) : tripM k q x l = false := by simp [tripM, h]
theorem tripM_no2 {k : Nat} {q : Int} {x : Nat} {l : List Int} (h : rising l (2 * k - 1) = false) : tripM k q x l = false := by simp [tripM, h]
theorem tripM_on {k : Nat} {q : Int} {x : Nat} {l : List Int} (h : within l.length 1 q = true) (h2 : rising l (2 * k - 1) = true) : tripM k q x l = canM k q x (maskOf l) := by simp [tripM, h, h2]
theorem mask_pos {l : List Int} {hi : Int} (hs : StepsTo l hi l.length) (h0 : 0 < l.length) : 1 ≤ maskOf l := by
  by_cases hm : maskOf l = 0
  · have h1 := mask_bit l (fun x hx => (mem_steps hs hx).1) (l[0]).toNat
    rw [hm] at h1
    have h2 : has l (l[0]).toNat = true := has_iff.2 (by rw [Int.toNat_of_nonneg (mem_steps hs (List.getElem_mem h0)).1]; exact List.getElem_mem h0)
    rw [h2] at h1
    simp [bitAt] at h1
  · omega

end Go.Proofs.Ytkocompjjogciaa

namespace Go.Proofs.Ytkocompjjogciaa
open Go.RowKit

/-- The number of the state behind a row. -/
noncomputable def stepC (x : Nat) (l : List Int) : Nat := x ^^^ (2 * maskOf l + 1)
/-- Are the lists rows, one after the other, and does the last one end at e? -/
noncomputable def planM (k : Nat) (q : Int) (e : Nat) : Nat → List (List Int) → Bool
  | x, [] => decide (x = e)
  | x, l :: ls => tripM k q x l && planM k q e (stepC x l) ls
theorem planM_stop {k : Nat} {q : Int} {e x : Nat} {ls : List (List Int)} {j : Nat} (hj : j < ls.length) (h : tripM k q x ls[j] = false) : planM k q e x (ls.drop j) = false := by
  rw [List.drop_eq_getElem_cons hj, planM, h]; rfl
theorem planM_next {k : Nat} {q : Int} {e x : Nat} {ls : List (List Int)} {j : Nat} (hj : j < ls.length) (h : tripM k q x ls[j] = true) : planM k q e x (ls.drop j) = planM k q e (stepC x ls[j]) (ls.drop (j + 1)) := by
  rw [List.drop_eq_getElem_cons hj, planM, h]; rfl
theorem trip_mask {k : Nat} {q : Int} {x : Nat} {l : List Int} (hk : k ≤ 4) (h : tripM k q x l = true) : StepsTo l (2 * k - 1) l.length ∧ maskOf l < 2 ^ (2 * k) := by
  simp only [tripM, Bool.and_eq_true] at h
  have hst := rising_steps h.2.1
  have hlen := (within_iff.1 h.1).1
  exact ⟨hst, mask_lt (n := 2 * k) (by have := steps_len hst (by omega); omega) l (fun x hx => by have := (mem_steps hst hx).2; omega)⟩
theorem stepC_lt {k x : Nat} {l : List Int} (hx : x / 2 < 2 ^ (2 * k)) (hm : maskOf l < 2 ^ (2 * k)) : stepC x l / 2 < 2 ^ (2 * k) := by
  have ha : x < 2 ^ (2 * k + 1) := by rw [Nat.pow_succ]; omega
  have hb : 2 * maskOf l + 1 < 2 ^ (2 * k + 1) := by rw [Nat.pow_succ]; omega
  have := Nat.xor_lt_two_pow ha hb
  rw [Nat.pow_succ] at this
  unfold stepC
  omega

end Go.Proofs.Ytkocompjjogciaa

namespace Go.Proofs.Ytkocompjjogciaa
open Go.RowKit

theorem nat_bits {a b : Nat} (h : ∀ i, bitAt a i = bitAt b i) : a = b := Nat.eq_of_testBit_eq h
theorem bit_code (bs : List Bool) (t : Bool) (i : Nat) : bitAt (codeOf bs t) i = if i = 0 then t else (decide (i - 1 < bs.length) && bs.getD (i - 1) false) := by
  cases i with
  | zero =>
    rw [bitAt_def]
    unfold codeOf
    cases t <;> simp <;> omega
  | succ j =>
    have h := bit_maskUp (fun i => bs.getD i false) bs.length j
    rw [← code_half bs t] at h
    simp only [Nat.add_one_ne_zero, if_false, Nat.add_one_sub_one]
    rw [← h, bitAt, bitAt, Nat.testBit_succ]
theorem bit_step (l : List Int) (h0 : ∀ x ∈ l, 0 ≤ x) (i : Nat) : bitAt (2 * maskOf l + 1) i = if i = 0 then true else has l (i - 1) := by
  cases i with
  | zero => rw [bitAt_def]; simp
  | succ j =>
    simp only [Nat.add_one_ne_zero, if_false, Nat.add_one_sub_one]
    rw [← mask_bit l h0 j, bitAt, bitAt, Nat.testBit_succ]
    congr 1
    omega
/-- The number of the state behind a row. -/
theorem step_code {n : Nat} {bs : List Bool} {t : Bool} {l : List Int} (hb : bs.length = n) (h0 : ∀ x ∈ l, 0 ≤ x ∧ x < n) : stepC (codeOf bs t) l = codeOf (flipped bs l) (!t) := by
  apply nat_bits
  intro i
  have h1 := bit_code bs t i
  have h2 := bit_step l (fun x hx => (h0 x hx).1) i
  rw [bit_code, stepC, bitAt, Nat.testBit_xor]
  unfold bitAt at h1 h2
  rw [h1, h2]
  cases i with
  | zero => cases t <;> rfl
  | succ j =>
    simp only [Nat.add_one_ne_zero, if_false, Nat.add_one_sub_one]
    rw [flipped_len]
    by_cases hj : j < bs.length
    · rw [flipped_get _ _ hj]
      simp [hj]
    · have hn : has l j = false := by
        cases hh : has l j
        · rfl
        · have := (h0 _ (has_iff.1 hh)).2
          omega
      simp [hj, hn]

/-- Two rising lists of the same numbers are one list. -/
theorem rising_same : ∀ {a b : List Int}, a.Pairwise (· < ·) → b.Pairwise (· < ·) → (∀ x, x ∈ a ↔ x ∈ b) → a = b
  | [], [], _, _, _ => rfl
  | [], y :: ys, _, _, h => absurd ((h y).2 (by simp)) (by simp)
  | x :: xs, [], _, _, h => absurd ((h x).1 (by simp)) (by simp)
  | x :: xs, y :: ys, ha, hb, h => by
    obtain ⟨ha1, ha2⟩ := List.pairwise_cons.1 ha
    obtain ⟨hb1, hb2⟩ := List.pairwise_cons.1 hb
    have hxy : x = y := by
      rcases List.mem_cons.1 ((h x).1 (by simp)) with e | hx
      · exact e
      · rcases List.mem_cons.1 ((h y).2 (by simp)) with e | hy
        · exact e.symm
        · have h1 := hb1 _ hx
          have h2 := ha1 _ hy
          omega
    subst hxy
    rw [rising_same ha2 hb2 fun z => ⟨fun hz => ?_, fun hz => ?_⟩]
    · rcases List.mem_cons.1 ((h z).1 (List.mem_cons_of_mem _ hz)) with e | hz'
      · have := ha1 _ hz; omega
      · exact hz'
    · rcases List.mem_cons.1 ((h z).2 (List.mem_cons_of_mem _ hz)) with e | hz'
      · have := hb1 _ hz; omega
      · exact hz'
theorem mem_firsts {n : Nat} {x : Int} : x ∈ firsts n ↔ 0 ≤ x ∧ x < n := by
  constructor
  · intro h
    have := firsts_mem h
    omega
  · intro h
    exact List.mem_map.2 ⟨x.toNat, List.mem_range.2 (by omega), by simp; omega⟩
theorem steps_sub {n : Nat} {l : List Int} (hs : StepsTo l ((n : Int) - 1) l.length) : l.Sublist (firsts n) := by
  have hm : ∀ x, x ∈ l → x ∈ firsts n := fun x hx => mem_firsts.2 (by have := mem_steps hs hx; omega)
  have he : l = (firsts n).filter (fun x => decide (x ∈ l)) := rising_same (steps_pair hs) ((firsts_pair n).filter _) fun x => by
    rw [List.mem_filter, decide_eq_true_eq]
    exact ⟨fun h => ⟨hm x h, h⟩, fun h => h.2⟩
  rw [he]
  exact List.filter_sublist
/-- The rising lists of people of so many, so many at most. -/
theorem mem_up {n m : Nat} {l : List Int} : l ∈ upLists n m ↔ StepsTo l ((n : Int) - 1) l.length ∧ 1 ≤ l.length ∧ l.length ≤ m := by
  refine ⟨up_steps, fun ⟨h1, h2, h3⟩ => ?_⟩
  rw [upLists, subs_mem]
  exact ⟨l, rfl, by intro h; rw [h] at h2; simp at h2, steps_sub h1, h3⟩
theorem list_mask {l : List Int} (hs : StepsTo l 7 l.length) : listOf (maskOf l) = l := by
  have h8 : ∀ x ∈ l, 0 ≤ x ∧ x ≤ 7 := fun x hx => mem_steps hs hx
  refine rising_same ?_ (steps_pair hs) fun x => ?_
  · have h := (firsts_pair 8).sublist (l₁ := listOf (maskOf l)) (by unfold listOf listTo firsts; exact List.filter_sublist.map _)
    exact h
  · unfold listOf listTo
    rw [List.mem_map]
    constructor
    · rintro ⟨i, hi, rfl⟩
      rw [List.mem_filter, mask_bit l (fun x hx => (h8 x hx).1)] at hi
      exact has_iff.1 hi.2
    · intro hx
      have hb := h8 x hx
      refine ⟨x.toNat, List.mem_filter.2 ⟨List.mem_range.2 (by omega), ?_⟩, by simp; omega⟩
      rw [mask_bit l (fun x hx => (h8 x hx).1), has_iff]
      rw [Int.toNat_of_nonneg hb.1]
      exact hx
theorem bit_here {k : Nat} {bs : List Bool} {t : Bool} (hb : bs.length = 2 * k) (i : Nat) : bitAt (hereM k (codeOf bs t)) i = (decide (i < 2 * k) && (bs.getD i false == t)) := by
  have hm := bit_maskUp (fun i => bs.getD i false) bs.length
  have hlt := maskUp_lt (fun i => bs.getD i false) bs.length
  unfold hereM
  rw [code_half]
  cases t
  · rw [if_pos (by unfold codeOf; simp), ← hb, rest_bit hlt, hm]
    by_cases h : i < bs.length <;> simp [h]
  · rw [if_neg (by unfold codeOf; simp), hm, hb]
    by_cases h : i < 2 * k <;> simp [h]
theorem here_all {k : Nat} {bs : List Bool} {t : Bool} {l : List Int} (hb : bs.length = 2 * k) (h0 : ∀ x ∈ l, 0 ≤ x ∧ x < 2 * k) : decide (maskOf l &&& hereM k (codeOf bs t) = maskOf l) = allAt bs t l := by
  have hbit : ∀ i, bitAt (maskOf l &&& hereM k (codeOf bs t)) i = (has l i && (decide (i < 2 * k) && (bs.getD i false == t))) := fun i => by
    rw [← bit_here hb i, ← mask_bit l (fun x hx => (h0 x hx).1) i]
    exact Nat.testBit_and _ _ _
  have hml := mask_bit l (fun x hx => (h0 x hx).1)
  rw [Bool.eq_iff_iff, decide_eq_true_eq, allAt, List.all_eq_true]
  constructor
  · intro h x hx
    have hb0 := h0 x hx
    have h1 := hbit x.toNat
    rw [h, hml, has_iff.2 (by rw [Int.toNat_of_nonneg hb0.1]; exact hx)] at h1
    simp only [Bool.true_and] at h1
    exact (Bool.and_eq_true_iff.1 h1.symm).2
  · intro h
    refine nat_bits fun i => ?_
    rw [hbit, hml]
    cases hh : has l i
    · rfl
    · have hi := has_iff.1 hh
      have h1 := h _ hi
      have h2 := h0 _ hi
      simp only [Int.toNat_natCast] at h1
      rw [h1, Bool.true_and, Bool.and_true, decide_eq_true_eq]
      omega
/-- The model's rows and the program's are the same. -/
theorem trip_rows {k q : Nat} {bs : List Bool} {t : Bool} {l : List Int} (hk : k ≤ 4) (hb : bs.length = 2 * k) : tripM k q (codeOf bs t) l = decide (l ∈ rowsIn k q bs t) := by
  rw [Bool.eq_iff_iff, decide_eq_true_eq, rowsIn, rowsAmong, List.mem_filter, groupsOf, grpOf, List.mem_filter, mem_up]
  simp only [tripM, canM, Bool.and_eq_true, within_iff]
  constructor
  · rintro ⟨⟨h1, h2⟩, h3, h4, h5, h6, h7⟩
    have hst := rising_steps h3
    have hm : ∀ x ∈ l, 0 ≤ x ∧ x < 2 * k := fun x hx => by have := mem_steps hst hx; omega
    rw [here_all hb hm] at h4
    rw [calm_congr (g := has l) (fun i _ => mask_bit l (fun x hx => (hm x hx).1) i)] at h6
    have hs := step_code (t := t) hb (l := l) (fun x hx => by have := hm x hx; omega)
    rw [stepC] at hs
    rw [hs, quiet_code (by rw [flipped_len]; exact hb)] at h7
    exact ⟨⟨⟨by push_cast; exact hst, by omega, by omega⟩, h6⟩, h4, h7⟩
  · rintro ⟨⟨⟨hst, h1, h2⟩, h6⟩, h4, h7⟩
    have hm : ∀ x ∈ l, 0 ≤ x ∧ x < 2 * k := fun x hx => by have := mem_steps hst hx; omega
    rw [← here_all hb hm] at h4
    have hs := step_code (t := t) hb (l := l) (fun x hx => by have := hm x hx; omega)
    rw [stepC] at hs
    rw [hs, quiet_code (by rw [flipped_len]; exact hb)]
    rw [← calm_congr (f := bitAt (maskOf l)) (g := has l) (fun i _ => mask_bit l (fun x hx => (hm x hx).1) i)] at h6
    have h7' : StepsTo l 7 l.length := fun j hj => by
      have := hst j hj
      unfold Step at this ⊢
      omega
    refine ⟨⟨by omega, by omega⟩, rising_yes (by push_cast at hst; exact hst) (Nat.le_refl _), h4, ?_, h6, h7⟩
    rw [list_mask h7', decide_eq_true_eq]
    omega

/-- Are the lists rows, one after the other, told by places? -/
def playP (k q : Nat) : List Bool → Bool → List (List Int) → Bool
  | bs, t, [] => sameBits bs (trues (2 * k)) && t
  | bs, t, l :: ls => decide (l ∈ rowsIn k q bs t) && playP k q (flipped bs l) (!t) ls
theorem play_stop {k q : Nat} {bs : List Bool} {t : Bool} {ls : List (List Int)} {j : Nat} (hj : j < ls.length) (h : ls[j] ∉ rowsIn k q bs t) : playP k q bs t (ls.drop j) = false := by
  rw [List.drop_eq_getElem_cons hj, playP, decide_eq_false h]; rfl
theorem play_next {k q : Nat} {bs : List Bool} {t : Bool} {ls : List (List Int)} {j : Nat} (hj : j < ls.length) (h : ls[j] ∈ rowsIn k q bs t) : playP k q bs t (ls.drop j) = playP k q (flipped bs ls[j]) (!t) (ls.drop (j + 1)) := by
  rw [List.drop_eq_getElem_cons hj, playP, decide_eq_true h]; rfl
theorem rows_bound {k q : Nat} {bs : List Bool} {t : Bool} {l : List Int} (h : l ∈ rowsIn k q bs t) : ∀ x ∈ l, 0 ≤ x ∧ x < ((2 * k : Nat) : Int) := fun x hx => by
  have h1 := (mem_up.1 (groups_up (List.mem_filter.1 h).1)).1
  have := mem_steps h1 hx
  omega
theorem code_end {n : Nat} {bs : List Bool} {t : Bool} (hb : bs.length = n) : decide (codeOf bs t = 2 * 2 ^ n - 1) = (sameBits bs (trues n) && t) := by
  have hp : 1 ≤ 2 ^ n := Nat.one_le_two_pow
  have he : (2 : Nat) * 2 ^ n - 1 = 2 ^ (n + 1) - 1 := by rw [Nat.pow_succ]; omega
  rw [Bool.eq_iff_iff, decide_eq_true_eq, Bool.and_eq_true]
  constructor
  · intro h
    have hbit : ∀ i, bitAt (codeOf bs t) i = decide (i < n + 1) := fun i => by rw [h, he]; exact Nat.testBit_two_pow_sub_one ..
    have h0 := hbit 0
    rw [bit_code] at h0
    have ht : t = true := by simpa using h0
    refine ⟨sameBits_yes (List.ext_getElem (by rw [hb, trues_len]) fun i h1 h2 => ?_), ht⟩
    have h3 := hbit (i + 1)
    rw [bit_code] at h3
    simp only [Nat.add_one_ne_zero, if_false, Nat.add_one_sub_one] at h3
    have h4 : bs.getD i false = true := by
      have : decide (i + 1 < n + 1) = true := by simp; omega
      rw [this] at h3
      exact (Bool.and_eq_true_iff.1 h3).2
    rw [show bs[i] = bs.getD i false by simp [h1], h4]
    simp [trues]
  · rintro ⟨h, ht⟩
    have h : bs = trues n := by simpa [sameBits] using h
    refine nat_bits fun i => ?_
    rw [bit_code, he, h, ht, trues_len]
    cases i with
    | zero => rw [bitAt, Nat.testBit_two_pow_sub_one]; simp
    | succ j =>
      rw [bitAt, Nat.testBit_two_pow_sub_one]
      simp only [Nat.add_one_ne_zero, if_false, Nat.add_one_sub_one]
      by_cases hj : j < n <;> simp [hj, trues]
/-- Both tests of a plan tell the same. -/
theorem plan_play {k q : Nat} (hk : k ≤ 4) : ∀ (ls : List (List Int)) (bs : List Bool) (t : Bool), bs.length = 2 * k → planM k q (2 * 2 ^ (2 * k) - 1) (codeOf bs t) ls = playP k q bs t ls
  | [], bs, t, hb => by rw [planM, playP, code_end hb]
  | l :: ls, bs, t, hb => by
    rw [planM, playP, trip_rows hk hb]
    by_cases h : l ∈ rowsIn k q bs t
    · rw [step_code hb (rows_bound h), plan_play hk ls (flipped bs l) (!t) (by rw [flipped_len]; exact hb)]
    · rw [decide_eq_false h]; rfl
theorem code_first (n : Nat) : codeOf (falses n) false = 0 := by
  refine nat_bits fun i => ?_
  rw [bit_code, bitAt, Nat.zero_testBit]
  cases i <;> simp [falses, List.getElem?_replicate]
  split <;> (intro; rfl)
end Go.Proofs.Ytkocompjjogciaa

namespace Go.Proofs.Ytkocompjjogciaa
open Go.RowKit

set_option maxHeartbeats 800000 in
theorem loParty_any (A : Option Addr) (n c : Nat) (B : Option Addr) (m d : Nat) (s : Int) (w : World) :
    Calls Try.prog 102 #[.agg #[.slice A n c, .slice B m d, .int .i64 s]] w fun e w' => e = .returned (.agg #[.slice A n c, .int .i64 0]) ∧ Below w.heap.size w w' := by
  have h0 := (Whole.fresh w 40 #[.slice A n c, .slice B m d, .int .i64 s]).alloc (.cells #[.slice none 0 0, .int .i64 0] 37)
  have h1 := Whole.fresh (w.alloc (.cells #[.slice A n c, .slice B m d, .int .i64 s] 40)) 37 #[.slice none 0 0, .int .i64 0]
  rw [World.size_alloc] at h1
  have ht := below2 w (.cells #[.slice A n c, .slice B m d, .int .i64 s] 40) (.cells #[.slice none 0 0, .int .i64 0] 37)
  go_enter Try.func102, Try.ntmps102
  go_wp2
  refine bodyPost_ret (v := .agg #[.slice A n c, .int .i64 0]) (by simp [results, Try.results102, go_sem]) rfl ⟨rfl, ?_⟩
  first
    | exact below_set (below_set ht (by omega)) (by omega)
    | exact ht
    | exact below1 w _
    | exact below2 w _ _

/-- A crew and a state of it. -/
def crewState (xs : List Int) (m : Nat) (s : Int) (sb : List Bool) (t : Bool) : Bool := isCrew xs m s && isState xs.length sb t

set_option maxHeartbeats 3200000 in
set_option maxRecDepth 100000 in
set_option linter.unusedSimpArgs false in
set_option linter.unusedVariables false in
theorem loAsked_any (A : Option Addr) (n c : Nat) (B : Option Addr) (m d : Nat) (xs : List Int) (s : Int) (D : Option Addr) (q z : Nat) (sb : List Bool) (t : Bool) (w : World) (hA : Holds w A (nums xs)) (hD : Holds w D (bits sb)) (hx : xs.length = n) (hqq : sb.length = q) (hn : n ≤ 9223372036854775807) (hq : q ≤ 9223372036854775807) :
    Calls Try.prog 78 #[.agg #[.slice A n c, .slice B m d, .int .i64 s], .agg #[.slice D q z, .bool t]] w fun e w' => e = .returned (.bool (crewState xs m s sb t)) ∧ Below w.heap.size w w' := by
  have HX := Lib.hid hx
  have HQ := Lib.hid hqq
  have hcr := (Whole.fresh w 40 #[.slice A n c, .slice B m d, .int .i64 s]).alloc (.cells #[.slice D q z, .bool t] 38)
  have hst := Whole.fresh (w.alloc (.cells #[.slice A n c, .slice B m d, .int .i64 s] 40)) 38 #[.slice D q z, .bool t]
  rw [World.size_alloc] at hst
  have ht := below2 w (.cells #[.slice A n c, .slice B m d, .int .i64 s] 40) (.cells #[.slice D q z, .bool t] 38)
  cases hp : isCrew xs m s
  · have HO : Hid (crewState xs m s sb t = false) := by show _ = _; simp [crewState, hp]
    have HP := Lib.hid hp
    clear hp hx hqq
    go_enter Try.func78, Try.ntmps78
    go_wp2_with fail
    refine wp_region_held_drew (S := (fun w' => Box3 w.heap.size (.slice A n c) (.slice B m d) (.int .i64 s) w' ∧ Box1 (w.heap.size + 1) (.slice D q z) (.bool t) w')) (by kernel_rfl) ⟨box3_of hcr.drew, box1_of hst.drew⟩ (fun hHeld => ?_)
    replace hcr := hcr.drew
    replace hst := hst.drew
    replace ht := ht.drew
    generalize World.drew (World.alloc (World.alloc w (.cells #[.slice A n c, .slice B m d, .int .i64 s] 40)) (.cells #[.slice D q z, .bool t] 38)) = wd at hcr hst ht hHeld ⊢
    refine wpAnyH_take (i := 0) (v := ?_) rfl (by kernel_rfl) (by kernel_rfl) (by kernel_rfl) (fun _ _ _ h => h) (Or.inl ⟨rfl, ?_⟩) hHeld ?_
    rotate_left
    · intro w' hS; obtain ⟨⟨a0, a1, a2⟩, b0, b1⟩ := hS; go_simp <;> with_reducible rfl
    simp only [Act.put, List.getElem_toArray, List.getElem_cons_succ, List.getElem_cons_zero, List.setIfInBounds_toArray, List.set_cons_succ, List.set_cons_zero]
    refine wpAnyH_ready (rs := [1]) (by kernel_rfl) (by simp) (AllReadyH.cons rfl (fun K hK => ?_) AllReadyH.nil)
    go_simp
    refine (loGood_any A n c B m d xs s _ (by exact hA.below ht) HX.out hn).mono ?_
    rintro e wx ⟨rfl, hb⟩
    rw [HP.out]
    replace hcr := hcr.below hb
    replace hst := hst.below hb
    replace ht := below_then ht hb ht.size
    clear hb
    refine hK.out _ _ ⟨box3_of hcr, box1_of hst⟩ (fun hHeld => ?_)
    clear hK K
    try simp only [Act.put, List.getElem_toArray, List.getElem_cons_succ, List.getElem_cons_zero, List.setIfInBounds_toArray, List.set_cons_succ, List.set_cons_zero]
    refine wpAnyH_take (i := 2) (v := ?_) rfl (by kernel_rfl) (by kernel_rfl) (by kernel_rfl) (fun _ _ _ h => h) (Or.inl ⟨rfl, ?_⟩) hHeld ?_
    rotate_left
    · intro w' hS; obtain ⟨⟨a0, a1, a2⟩, b0, b1⟩ := hS; go_simp <;> with_reducible rfl
    simp only [Act.put, List.getElem_toArray, List.getElem_cons_succ, List.getElem_cons_zero, List.setIfInBounds_toArray, List.set_cons_succ, List.set_cons_zero]
    refine wpAnyH_take (i := 3) (v := undef) rfl (by kernel_rfl) (by kernel_rfl) (by kernel_rfl) (fun _ _ _ h => h) (Or.inr ⟨by simp [Region.wanted, yielded], rfl⟩) hHeld ?_
    simp only [Act.put, List.getElem_toArray, List.getElem_cons_succ, List.getElem_cons_zero, List.setIfInBounds_toArray, List.set_cons_succ, List.set_cons_zero]
    refine wpAnyH_take (i := 4) (v := undef) rfl (by kernel_rfl) (by kernel_rfl) (by kernel_rfl) (fun _ _ _ h => h) (Or.inr ⟨by simp [Region.wanted, yielded], rfl⟩) hHeld ?_
    simp only [Act.put, List.getElem_toArray, List.getElem_cons_succ, List.getElem_cons_zero, List.setIfInBounds_toArray, List.set_cons_succ, List.set_cons_zero]
    refine wpAnyH_take (i := 5) (v := undef) rfl (by kernel_rfl) (by kernel_rfl) (by kernel_rfl) (fun _ _ _ h => h) (Or.inr ⟨by simp [Region.wanted, yielded], rfl⟩) hHeld ?_
    simp only [Act.put, List.getElem_toArray, List.getElem_cons_succ, List.getElem_cons_zero, List.setIfInBounds_toArray, List.set_cons_succ, List.set_cons_zero]
    refine wpAnyH_take (i := 6) (v := undef) rfl (by kernel_rfl) (by kernel_rfl) (by kernel_rfl) (fun _ _ _ h => h) (Or.inr ⟨by simp [Region.wanted, yielded], rfl⟩) hHeld ?_
    simp only [Act.put, List.getElem_toArray, List.getElem_cons_succ, List.getElem_cons_zero, List.setIfInBounds_toArray, List.set_cons_succ, List.set_cons_zero]
    refine wpAnyH_take (i := 7) (v := ?_) rfl (by kernel_rfl) (by kernel_rfl) (by kernel_rfl) (fun _ _ _ h => h) (Or.inl ⟨rfl, ?_⟩) hHeld ?_
    rotate_left
    · intro w' hS; obtain ⟨⟨a0, a1, a2⟩, b0, b1⟩ := hS; go_simp <;> with_reducible rfl
    simp only [Act.put, List.getElem_toArray, List.getElem_cons_succ, List.getElem_cons_zero, List.setIfInBounds_toArray, List.set_cons_succ, List.set_cons_zero]
    refine wpAnyH_take (i := 8) (v := ?_) rfl (by kernel_rfl) (by kernel_rfl) (by kernel_rfl) (fun _ _ _ h => h) (Or.inl ⟨rfl, ?_⟩) hHeld ?_
    rotate_left
    · intro w' hS; obtain ⟨⟨a0, a1, a2⟩, b0, b1⟩ := hS; go_simp <;> with_reducible rfl
    simp only [Act.put, List.getElem_toArray, List.getElem_cons_succ, List.getElem_cons_zero, List.setIfInBounds_toArray, List.set_cons_succ, List.set_cons_zero]
    refine wpAnyH_done (by kernel_rfl) ?_ _
    clear hHeld
    go_wp2
    go_ret
    exact ⟨ret_of (by rw [HO.out]; rfl), ht⟩
  · have HO : Hid (crewState xs m s sb t = isState n sb t) := by show _ = _; simp [crewState, hp, hx]
    have HP := Lib.hid hp
    clear hp hx hqq
    go_enter Try.func78, Try.ntmps78
    go_wp2_with fail
    refine wp_region_held_drew (S := (fun w' => Box3 w.heap.size (.slice A n c) (.slice B m d) (.int .i64 s) w' ∧ Box1 (w.heap.size + 1) (.slice D q z) (.bool t) w')) (by kernel_rfl) ⟨box3_of hcr.drew, box1_of hst.drew⟩ (fun hHeld => ?_)
    replace hcr := hcr.drew
    replace hst := hst.drew
    replace ht := ht.drew
    generalize World.drew (World.alloc (World.alloc w (.cells #[.slice A n c, .slice B m d, .int .i64 s] 40)) (.cells #[.slice D q z, .bool t] 38)) = wd at hcr hst ht hHeld ⊢
    refine wpAnyH_take (i := 0) (v := ?_) rfl (by kernel_rfl) (by kernel_rfl) (by kernel_rfl) (fun _ _ _ h => h) (Or.inl ⟨rfl, ?_⟩) hHeld ?_
    rotate_left
    · intro w' hS; obtain ⟨⟨a0, a1, a2⟩, b0, b1⟩ := hS; go_simp <;> with_reducible rfl
    simp only [Act.put, List.getElem_toArray, List.getElem_cons_succ, List.getElem_cons_zero, List.setIfInBounds_toArray, List.set_cons_succ, List.set_cons_zero]
    refine wpAnyH_ready (rs := [1]) (by kernel_rfl) (by simp) (AllReadyH.cons rfl (fun K hK => ?_) AllReadyH.nil)
    go_simp
    refine (loGood_any A n c B m d xs s _ (by exact hA.below ht) HX.out hn).mono ?_
    rintro e wx ⟨rfl, hb⟩
    rw [HP.out]
    replace hcr := hcr.below hb
    replace hst := hst.below hb
    replace ht := below_then ht hb ht.size
    clear hb
    refine hK.out _ _ ⟨box3_of hcr, box1_of hst⟩ (fun hHeld => ?_)
    clear hK K
    try simp only [Act.put, List.getElem_toArray, List.getElem_cons_succ, List.getElem_cons_zero, List.setIfInBounds_toArray, List.set_cons_succ, List.set_cons_zero]
    refine wpAnyH_take (i := 2) (v := ?_) rfl (by kernel_rfl) (by kernel_rfl) (by kernel_rfl) (fun _ _ _ h => h) (Or.inl ⟨rfl, ?_⟩) hHeld ?_
    rotate_left
    · intro w' hS; obtain ⟨⟨a0, a1, a2⟩, b0, b1⟩ := hS; go_simp <;> with_reducible rfl
    simp only [Act.put, List.getElem_toArray, List.getElem_cons_succ, List.getElem_cons_zero, List.setIfInBounds_toArray, List.set_cons_succ, List.set_cons_zero]
    refine wpAnyH_take (i := 3) (v := ?_) rfl (by kernel_rfl) (by kernel_rfl) (by kernel_rfl) (fun _ _ _ h => h) (Or.inl ⟨rfl, ?_⟩) hHeld ?_
    rotate_left
    · intro w' hS; obtain ⟨⟨a0, a1, a2⟩, b0, b1⟩ := hS; go_simp <;> with_reducible rfl
    simp only [Act.put, List.getElem_toArray, List.getElem_cons_succ, List.getElem_cons_zero, List.setIfInBounds_toArray, List.set_cons_succ, List.set_cons_zero]
    refine wpAnyH_take (i := 5) (v := ?_) rfl (by kernel_rfl) (by kernel_rfl) (by kernel_rfl) (fun _ _ _ h => h) (Or.inl ⟨rfl, ?_⟩) hHeld ?_
    rotate_left
    · intro w' hS; obtain ⟨⟨a0, a1, a2⟩, b0, b1⟩ := hS; go_simp <;> with_reducible rfl
    simp only [Act.put, List.getElem_toArray, List.getElem_cons_succ, List.getElem_cons_zero, List.setIfInBounds_toArray, List.set_cons_succ, List.set_cons_zero]
    refine wpAnyH_ready (rs := [4]) (by kernel_rfl) (by simp) (AllReadyH.cons rfl (fun K hK => ?_) AllReadyH.nil)
    go_simp
    refine (loParty_any A n c B m d s _).mono ?_
    rintro e wx ⟨rfl, hb⟩
    replace hcr := hcr.below hb
    replace hst := hst.below hb
    replace ht := below_then ht hb ht.size
    clear hb
    refine hK.out _ _ ⟨box3_of hcr, box1_of hst⟩ (fun hHeld => ?_)
    clear hK K
    try simp only [Act.put, List.getElem_toArray, List.getElem_cons_succ, List.getElem_cons_zero, List.setIfInBounds_toArray, List.set_cons_succ, List.set_cons_zero]
    refine wpAnyH_ready (rs := [6]) (by kernel_rfl) (by simp) (AllReadyH.cons rfl (fun K hK => ?_) AllReadyH.nil)
    go_simp
    refine (paState_any A D n c q z sb 0 t _ (by exact hD.below ht) HQ.out hq).mono ?_
    rintro e wx ⟨rfl, hb⟩
    replace hcr := hcr.below hb
    replace hst := hst.below hb
    replace ht := below_then ht hb ht.size
    clear hb
    refine hK.out _ _ ⟨box3_of hcr, box1_of hst⟩ (fun hHeld => ?_)
    clear hK K
    try simp only [Act.put, List.getElem_toArray, List.getElem_cons_succ, List.getElem_cons_zero, List.setIfInBounds_toArray, List.set_cons_succ, List.set_cons_zero]
    refine wpAnyH_take (i := 7) (v := ?_) rfl (by kernel_rfl) (by kernel_rfl) (by kernel_rfl) (fun _ _ _ h => h) (Or.inl ⟨rfl, ?_⟩) hHeld ?_
    rotate_left
    · intro w' hS; obtain ⟨⟨a0, a1, a2⟩, b0, b1⟩ := hS; go_simp <;> with_reducible rfl
    simp only [Act.put, List.getElem_toArray, List.getElem_cons_succ, List.getElem_cons_zero, List.setIfInBounds_toArray, List.set_cons_succ, List.set_cons_zero]
    refine wpAnyH_take (i := 8) (v := ?_) rfl (by kernel_rfl) (by kernel_rfl) (by kernel_rfl) (fun _ _ _ h => h) (Or.inl ⟨rfl, ?_⟩) hHeld ?_
    rotate_left
    · intro w' hS; obtain ⟨⟨a0, a1, a2⟩, b0, b1⟩ := hS; go_simp <;> with_reducible rfl
    simp only [Act.put, List.getElem_toArray, List.getElem_cons_succ, List.getElem_cons_zero, List.setIfInBounds_toArray, List.set_cons_succ, List.set_cons_zero]
    refine wpAnyH_done (by kernel_rfl) ?_ _
    clear hHeld
    go_wp2
    go_ret
    exact ⟨ret_of (by rw [HO.out]; rfl), ht⟩

/-- Is a list a ride in a state? -/
noncomputable def canRide (xs : List Int) (bs : List Bool) (s : Int) (sb : List Bool) (t : Bool) (l : List Int) : Bool := decide (l ≠ []) && (rising l ((xs.length : Int) - 1) && (decide (loadOf xs l ≤ s) && (allAt sb t l && canRow bs l)))
theorem ride_nil {xs : List Int} {bs : List Bool} {s : Int} {sb : List Bool} {t : Bool} : canRide xs bs s sb t [] = false := by simp [canRide]
theorem ride_fall {xs : List Int} {bs : List Bool} {s : Int} {sb : List Bool} {t : Bool} {l : List Int} (h : rising l ((xs.length : Int) - 1) = false) : canRide xs bs s sb t l = false := by simp [canRide, h]
theorem ride_load {xs : List Int} {bs : List Bool} {s : Int} {sb : List Bool} {t : Bool} {l : List Int} (h : s < loadOf xs l) : canRide xs bs s sb t l = false := by
  have h1 : decide (loadOf xs l ≤ s) = false := by simp; omega
  simp [canRide, h1]
theorem ride_at {xs : List Int} {bs : List Bool} {s : Int} {sb : List Bool} {t : Bool} {l : List Int} (h : allAt sb t l = false) : canRide xs bs s sb t l = false := by simp [canRide, h]
theorem ride_yes {xs : List Int} {bs : List Bool} {s : Int} {sb : List Bool} {t : Bool} {l : List Int} (h0 : l ≠ []) (h1 : rising l ((xs.length : Int) - 1) = true) (h2 : loadOf xs l ≤ s) (h3 : allAt sb t l = true) : canRide xs bs s sb t l = canRow bs l := by simp [canRide, h0, h1, h2, h3]
/-- The rides in a state, as both sides tell them. -/
theorem ride_mem {xs : List Int} {bs : List Bool} {s : Int} {sb : List Bool} {t : Bool} {l : List Int} : canRide xs bs s sb t l = true ↔ l ∈ (crewLists xs bs s).filter (fun l => allAt sb t l) := by
  simp only [crewLists, legsIn, List.mem_filter, legOk, canRide, Bool.and_eq_true, decide_eq_true_eq, mem_up]
  constructor
  · rintro ⟨h0, h1, h2, h3, h4⟩
    exact ⟨⟨⟨rising_steps h1, by have := List.length_pos_iff.2 h0; omega, rising_short h1⟩, h4, h2⟩, h3⟩
  · rintro ⟨⟨⟨h1, h2, h3⟩, h4, h5⟩, h6⟩
    exact ⟨fun e => by subst e; simp at h2, rising_yes h1 (Nat.le_refl _), h5, h6, h4⟩
/-- Some of the first k can row. -/
theorem canRow_next {bs : List Bool} {l : List Int} {k : Nat} (hk : k < l.length) : canRow bs (l.take (k + 1)) = (canRow bs (l.take k) || bs.getD (l[k]).toNat false) := by
  rw [List.take_succ_eq_append_getElem hk, canRow, List.any_append]; simp [canRow]

set_option maxHeartbeats 6400000 in
set_option maxRecDepth 100000 in
set_option linter.unusedSimpArgs false in
set_option linter.unusedVariables false in
theorem loCan_any (A : Option Addr) (n c : Nat) (B : Option Addr) (m d : Nat) (xs : List Int) (bs : List Bool) (s : Int) (D : Option Addr) (q z : Nat) (sb : List Bool) (t : Bool) (E : Option Addr) (r y : Nat) (l : List Int) (w : World) (hA : Holds w A (nums xs)) (hB : Holds w B (bits bs)) (hD : Holds w D (bits sb)) (hE : Holds w E (nums l)) (hx : xs.length = n) (hy : bs.length = m) (hqq : sb.length = q) (hl : l.length = r) (hr : r ≤ 9223372036854775807) (hcw : CrewOk xs m s) (hsl : sb.length = xs.length) :
    Calls Try.prog 85 #[.agg #[.slice A n c, .slice B m d, .int .i64 s], .agg #[.slice D q z, .bool t], .slice E r y] w fun e w' => e = .returned (.bool (canRide xs bs s sb t l)) ∧ Below w.heap.size w w' := by
  have hn7 : n ≤ 7 := by have := hcw.seven; omega
  have HX := Lib.hid hx
  have HQ := Lib.hid hqq
  have HL := Lib.hid hl
  have HY := Lib.hid hy
  have HW := Lib.hid hcw.weights
  have HR := Lib.hid hcw.rows
  have HSL := Lib.hid hsl
  have hnc : (n : Int) - 1 = (xs.length : Int) - 1 := by omega
  have hwr : IntKind.i64.wrap ((n : Int) - 1) = (n : Int) - 1 := IntWalk.i64_in _ (by omega)
  have hcr := (Whole.fresh w 40 #[.slice A n c, .slice B m d, .int .i64 s]).alloc (.cells #[.slice D q z, .bool t] 38)
  have hst := Whole.fresh (w.alloc (.cells #[.slice A n c, .slice B m d, .int .i64 s] 40)) 38 #[.slice D q z, .bool t]
  rw [World.size_alloc] at hst
  have ht := below2 w (.cells #[.slice A n c, .slice B m d, .int .i64 s] 40) (.cells #[.slice D q z, .bool t] 38)
  by_cases h0 : l = []
  · subst h0
    have hr0 : ((r : Int) == 0) = true := by simp at hl; simp [← hl]
    have HO := Lib.hid (ride_nil (xs := xs) (bs := bs) (s := s) (sb := sb) (t := t))
    clear hx hy hqq hl hsl hcw hnc
    go_enter Try.func85, Try.ntmps85
    go_wp2_with fail
    refine wp_region_held_drew (S := (fun w' => Box3 w.heap.size (.slice A n c) (.slice B m d) (.int .i64 s) w' ∧ Box1 (w.heap.size + 1) (.slice D q z) (.bool t) w')) (by kernel_rfl) ⟨box3_of hcr.drew, box1_of hst.drew⟩ (fun hHeld => ?_)
    replace hcr := hcr.drew
    replace hst := hst.drew
    replace ht := ht.drew
    generalize World.drew (World.alloc (World.alloc w (.cells #[.slice A n c, .slice B m d, .int .i64 s] 40)) (.cells #[.slice D q z, .bool t] 38)) = wd at hcr hst ht hHeld ⊢
    refine wpAnyH_take (i := 0) (v := ?_) rfl (by kernel_rfl) (by kernel_rfl) (by kernel_rfl) (fun _ _ _ h => h) (Or.inl ⟨rfl, ?_⟩) hHeld ?_
    rotate_left
    · intro w' hS; obtain ⟨⟨a0, a1, a2⟩, b0, b1⟩ := hS; go_simp <;> with_reducible rfl
    simp only [Act.put, List.getElem_toArray, List.getElem_cons_succ, List.getElem_cons_zero, List.setIfInBounds_toArray, List.set_cons_succ, List.set_cons_zero]
    refine wpAnyH_take (i := 1) (v := ?_) rfl (by kernel_rfl) (by kernel_rfl) (by kernel_rfl) (fun _ _ _ h => h) (Or.inl ⟨rfl, ?_⟩) hHeld ?_
    rotate_left
    · intro w' hS; obtain ⟨⟨a0, a1, a2⟩, b0, b1⟩ := hS; go_simp <;> with_reducible rfl
    simp only [Act.put, List.getElem_toArray, List.getElem_cons_succ, List.getElem_cons_zero, List.setIfInBounds_toArray, List.set_cons_succ, List.set_cons_zero]
    refine wpAnyH_take (i := 2) (v := ?_) rfl (by kernel_rfl) (by kernel_rfl) (by kernel_rfl) (fun _ _ _ h => h) (Or.inl ⟨rfl, ?_⟩) hHeld ?_
    rotate_left
    · intro w' hS; obtain ⟨⟨a0, a1, a2⟩, b0, b1⟩ := hS; go_simp <;> with_reducible rfl
    simp only [Act.put, List.getElem_toArray, List.getElem_cons_succ, List.getElem_cons_zero, List.setIfInBounds_toArray, List.set_cons_succ, List.set_cons_zero]
    refine wpAnyH_take (i := 3) (v := ?_) rfl (by kernel_rfl) (by kernel_rfl) (by kernel_rfl) (fun _ _ _ h => h) (Or.inl ⟨rfl, ?_⟩) hHeld ?_
    rotate_left
    · intro w' hS; obtain ⟨⟨a0, a1, a2⟩, b0, b1⟩ := hS; go_simp <;> with_reducible rfl
    simp only [Act.put, List.getElem_toArray, List.getElem_cons_succ, List.getElem_cons_zero, List.setIfInBounds_toArray, List.set_cons_succ, List.set_cons_zero]
    refine wpAnyH_take (i := 4) (v := undef) rfl (by kernel_rfl) (by kernel_rfl) (by kernel_rfl) (fun _ _ _ h => h) (Or.inr ⟨by simp [Region.wanted, yielded], rfl⟩) hHeld ?_
    simp only [Act.put, List.getElem_toArray, List.getElem_cons_succ, List.getElem_cons_zero, List.setIfInBounds_toArray, List.set_cons_succ, List.set_cons_zero]
    refine wpAnyH_take (i := 5) (v := undef) rfl (by kernel_rfl) (by kernel_rfl) (by kernel_rfl) (fun _ _ _ h => h) (Or.inr ⟨by simp [Region.wanted, yielded], rfl⟩) hHeld ?_
    simp only [Act.put, List.getElem_toArray, List.getElem_cons_succ, List.getElem_cons_zero, List.setIfInBounds_toArray, List.set_cons_succ, List.set_cons_zero]
    refine wpAnyH_take (i := 6) (v := undef) rfl (by kernel_rfl) (by kernel_rfl) (by kernel_rfl) (fun _ _ _ h => h) (Or.inr ⟨by simp [Region.wanted, yielded], rfl⟩) hHeld ?_
    simp only [Act.put, List.getElem_toArray, List.getElem_cons_succ, List.getElem_cons_zero, List.setIfInBounds_toArray, List.set_cons_succ, List.set_cons_zero]
    refine wpAnyH_take (i := 7) (v := undef) rfl (by kernel_rfl) (by kernel_rfl) (by kernel_rfl) (fun _ _ _ h => h) (Or.inr ⟨by simp [Region.wanted, yielded], rfl⟩) hHeld ?_
    simp only [Act.put, List.getElem_toArray, List.getElem_cons_succ, List.getElem_cons_zero, List.setIfInBounds_toArray, List.set_cons_succ, List.set_cons_zero]
    refine wpAnyH_take (i := 8) (v := undef) rfl (by kernel_rfl) (by kernel_rfl) (by kernel_rfl) (fun _ _ _ h => h) (Or.inr ⟨by simp [Region.wanted, yielded], rfl⟩) hHeld ?_
    simp only [Act.put, List.getElem_toArray, List.getElem_cons_succ, List.getElem_cons_zero, List.setIfInBounds_toArray, List.set_cons_succ, List.set_cons_zero]
    refine wpAnyH_take (i := 9) (v := undef) rfl (by kernel_rfl) (by kernel_rfl) (by kernel_rfl) (fun _ _ _ h => h) (Or.inr ⟨by simp [Region.wanted, yielded], rfl⟩) hHeld ?_
    simp only [Act.put, List.getElem_toArray, List.getElem_cons_succ, List.getElem_cons_zero, List.setIfInBounds_toArray, List.set_cons_succ, List.set_cons_zero]
    refine wpAnyH_take (i := 10) (v := undef) rfl (by kernel_rfl) (by kernel_rfl) (by kernel_rfl) (fun _ _ _ h => h) (Or.inr ⟨by simp [Region.wanted, yielded], rfl⟩) hHeld ?_
    simp only [Act.put, List.getElem_toArray, List.getElem_cons_succ, List.getElem_cons_zero, List.setIfInBounds_toArray, List.set_cons_succ, List.set_cons_zero]
    refine wpAnyH_take (i := 11) (v := ?_) rfl (by kernel_rfl) (by kernel_rfl) (by kernel_rfl) (fun _ _ _ h => h) (Or.inl ⟨rfl, ?_⟩) hHeld ?_
    rotate_left
    · intro w' hS; obtain ⟨⟨a0, a1, a2⟩, b0, b1⟩ := hS; go_simp <;> with_reducible rfl
    simp only [Act.put, List.getElem_toArray, List.getElem_cons_succ, List.getElem_cons_zero, List.setIfInBounds_toArray, List.set_cons_succ, List.set_cons_zero]
    refine wpAnyH_take (i := 12) (v := ?_) rfl (by kernel_rfl) (by kernel_rfl) (by kernel_rfl) (fun _ _ _ h => h) (Or.inl ⟨rfl, ?_⟩) hHeld ?_
    rotate_left
    · intro w' hS; obtain ⟨⟨a0, a1, a2⟩, b0, b1⟩ := hS; go_simp <;> with_reducible rfl
    simp only [Act.put, List.getElem_toArray, List.getElem_cons_succ, List.getElem_cons_zero, List.setIfInBounds_toArray, List.set_cons_succ, List.set_cons_zero]
    refine wpAnyH_take (i := 13) (v := undef) rfl (by kernel_rfl) (by kernel_rfl) (by kernel_rfl) (fun _ _ _ h => h) (Or.inr ⟨by simp [Region.wanted, yielded], rfl⟩) hHeld ?_
    simp only [Act.put, List.getElem_toArray, List.getElem_cons_succ, List.getElem_cons_zero, List.setIfInBounds_toArray, List.set_cons_succ, List.set_cons_zero]
    refine wpAnyH_take (i := 14) (v := undef) rfl (by kernel_rfl) (by kernel_rfl) (by kernel_rfl) (fun _ _ _ h => h) (Or.inr ⟨by simp [Region.wanted, yielded], rfl⟩) hHeld ?_
    simp only [Act.put, List.getElem_toArray, List.getElem_cons_succ, List.getElem_cons_zero, List.setIfInBounds_toArray, List.set_cons_succ, List.set_cons_zero]
    refine wpAnyH_take (i := 15) (v := undef) rfl (by kernel_rfl) (by kernel_rfl) (by kernel_rfl) (fun _ _ _ h => h) (Or.inr ⟨by simp [Region.wanted, yielded], rfl⟩) hHeld ?_
    simp only [Act.put, List.getElem_toArray, List.getElem_cons_succ, List.getElem_cons_zero, List.setIfInBounds_toArray, List.set_cons_succ, List.set_cons_zero]
    refine wpAnyH_take (i := 16) (v := undef) rfl (by kernel_rfl) (by kernel_rfl) (by kernel_rfl) (fun _ _ _ h => h) (Or.inr ⟨by simp [Region.wanted, yielded], rfl⟩) hHeld ?_
    simp only [Act.put, List.getElem_toArray, List.getElem_cons_succ, List.getElem_cons_zero, List.setIfInBounds_toArray, List.set_cons_succ, List.set_cons_zero]
    refine wpAnyH_take (i := 17) (v := undef) rfl (by kernel_rfl) (by kernel_rfl) (by kernel_rfl) (fun _ _ _ h => h) (Or.inr ⟨by simp [Region.wanted, yielded], rfl⟩) hHeld ?_
    simp only [Act.put, List.getElem_toArray, List.getElem_cons_succ, List.getElem_cons_zero, List.setIfInBounds_toArray, List.set_cons_succ, List.set_cons_zero]
    refine wpAnyH_take (i := 18) (v := undef) rfl (by kernel_rfl) (by kernel_rfl) (by kernel_rfl) (fun _ _ _ h => h) (Or.inr ⟨by simp [Region.wanted, yielded], rfl⟩) hHeld ?_
    simp only [Act.put, List.getElem_toArray, List.getElem_cons_succ, List.getElem_cons_zero, List.setIfInBounds_toArray, List.set_cons_succ, List.set_cons_zero]
    refine wpAnyH_take (i := 19) (v := ?_) rfl (by kernel_rfl) (by kernel_rfl) (by kernel_rfl) (fun _ _ _ h => h) (Or.inl ⟨rfl, ?_⟩) hHeld ?_
    rotate_left
    · intro w' hS; obtain ⟨⟨a0, a1, a2⟩, b0, b1⟩ := hS; go_simp <;> with_reducible rfl
    simp only [Act.put, List.getElem_toArray, List.getElem_cons_succ, List.getElem_cons_zero, List.setIfInBounds_toArray, List.set_cons_succ, List.set_cons_zero]
    refine wpAnyH_done (by kernel_rfl) ?_ _
    clear hHeld
    go_wp2
    go_ret
    exact ⟨ret_of (by rw [HO.out]; rfl), ht⟩
  have hr0 : ((r : Int) == 0) = false := by have := List.length_pos_iff.2 h0; simp; omega
  have H0 := Lib.hid h0
  clear h0
  cases hri : rising l ((n : Int) - 1)
  · have HO := Lib.hid (ride_fall (bs := bs) (s := s) (sb := sb) (t := t) (by rw [← hnc]; exact hri))
    have HRI := Lib.hid hri
    clear hx hy hqq hl hsl hcw hnc hri
    go_enter Try.func85, Try.ntmps85
    go_wp2_with fail
    refine wp_region_held_drew (S := (fun w' => Box3 w.heap.size (.slice A n c) (.slice B m d) (.int .i64 s) w' ∧ Box1 (w.heap.size + 1) (.slice D q z) (.bool t) w')) (by kernel_rfl) ⟨box3_of hcr.drew, box1_of hst.drew⟩ (fun hHeld => ?_)
    replace hcr := hcr.drew
    replace hst := hst.drew
    replace ht := ht.drew
    generalize World.drew (World.alloc (World.alloc w (.cells #[.slice A n c, .slice B m d, .int .i64 s] 40)) (.cells #[.slice D q z, .bool t] 38)) = wd at hcr hst ht hHeld ⊢
    refine wpAnyH_take (i := 0) (v := ?_) rfl (by kernel_rfl) (by kernel_rfl) (by kernel_rfl) (fun _ _ _ h => h) (Or.inl ⟨rfl, ?_⟩) hHeld ?_
    rotate_left
    · intro w' hS; obtain ⟨⟨a0, a1, a2⟩, b0, b1⟩ := hS; go_simp <;> with_reducible rfl
    simp only [Act.put, List.getElem_toArray, List.getElem_cons_succ, List.getElem_cons_zero, List.setIfInBounds_toArray, List.set_cons_succ, List.set_cons_zero]
    refine wpAnyH_take (i := 1) (v := ?_) rfl (by kernel_rfl) (by kernel_rfl) (by kernel_rfl) (fun _ _ _ h => h) (Or.inl ⟨rfl, ?_⟩) hHeld ?_
    rotate_left
    · intro w' hS; obtain ⟨⟨a0, a1, a2⟩, b0, b1⟩ := hS; go_simp <;> with_reducible rfl
    simp only [Act.put, List.getElem_toArray, List.getElem_cons_succ, List.getElem_cons_zero, List.setIfInBounds_toArray, List.set_cons_succ, List.set_cons_zero]
    refine wpAnyH_take (i := 2) (v := ?_) rfl (by kernel_rfl) (by kernel_rfl) (by kernel_rfl) (fun _ _ _ h => h) (Or.inl ⟨rfl, ?_⟩) hHeld ?_
    rotate_left
    · intro w' hS; obtain ⟨⟨a0, a1, a2⟩, b0, b1⟩ := hS; go_simp <;> with_reducible rfl
    simp only [Act.put, List.getElem_toArray, List.getElem_cons_succ, List.getElem_cons_zero, List.setIfInBounds_toArray, List.set_cons_succ, List.set_cons_zero]
    refine wpAnyH_take (i := 3) (v := ?_) rfl (by kernel_rfl) (by kernel_rfl) (by kernel_rfl) (fun _ _ _ h => h) (Or.inl ⟨rfl, ?_⟩) hHeld ?_
    rotate_left
    · intro w' hS; obtain ⟨⟨a0, a1, a2⟩, b0, b1⟩ := hS; go_simp <;> with_reducible rfl
    simp only [Act.put, List.getElem_toArray, List.getElem_cons_succ, List.getElem_cons_zero, List.setIfInBounds_toArray, List.set_cons_succ, List.set_cons_zero]
    refine wpAnyH_take (i := 4) (v := ?_) rfl (by kernel_rfl) (by kernel_rfl) (by kernel_rfl) (fun _ _ _ h => h) (Or.inl ⟨rfl, ?_⟩) hHeld ?_
    rotate_left
    · intro w' hS; obtain ⟨⟨a0, a1, a2⟩, b0, b1⟩ := hS; go_simp <;> with_reducible rfl
    simp only [Act.put, List.getElem_toArray, List.getElem_cons_succ, List.getElem_cons_zero, List.setIfInBounds_toArray, List.set_cons_succ, List.set_cons_zero]
    refine wpAnyH_take (i := 5) (v := ?_) rfl (by kernel_rfl) (by kernel_rfl) (by kernel_rfl) (fun _ _ _ h => h) (Or.inl ⟨rfl, ?_⟩) hHeld ?_
    rotate_left
    · intro w' hS; obtain ⟨⟨a0, a1, a2⟩, b0, b1⟩ := hS; go_simp <;> with_reducible rfl
    simp only [Act.put, List.getElem_toArray, List.getElem_cons_succ, List.getElem_cons_zero, List.setIfInBounds_toArray, List.set_cons_succ, List.set_cons_zero]
    refine wpAnyH_take (i := 6) (v := ?_) rfl (by kernel_rfl) (by kernel_rfl) (by kernel_rfl) (fun _ _ _ h => h) (Or.inl ⟨rfl, ?_⟩) hHeld ?_
    rotate_left
    · intro w' hS; obtain ⟨⟨a0, a1, a2⟩, b0, b1⟩ := hS; go_simp <;> with_reducible rfl
    simp only [Act.put, List.getElem_toArray, List.getElem_cons_succ, List.getElem_cons_zero, List.setIfInBounds_toArray, List.set_cons_succ, List.set_cons_zero]
    refine wpAnyH_take (i := 7) (v := ?_) rfl (by kernel_rfl) (by kernel_rfl) (by kernel_rfl) (fun _ _ _ h => h) (Or.inl ⟨rfl, ?_⟩) hHeld ?_
    rotate_left
    · intro w' hS; obtain ⟨⟨a0, a1, a2⟩, b0, b1⟩ := hS; go_simp <;> with_reducible rfl
    simp only [Act.put, List.getElem_toArray, List.getElem_cons_succ, List.getElem_cons_zero, List.setIfInBounds_toArray, List.set_cons_succ, List.set_cons_zero]
    refine wpAnyH_take (i := 8) (v := ?_) rfl (by kernel_rfl) (by kernel_rfl) (by kernel_rfl) (fun _ _ _ h => h) (Or.inl ⟨rfl, ?_⟩) hHeld ?_
    rotate_left
    · intro w' hS; obtain ⟨⟨a0, a1, a2⟩, b0, b1⟩ := hS; go_simp <;> with_reducible rfl
    simp only [Act.put, List.getElem_toArray, List.getElem_cons_succ, List.getElem_cons_zero, List.setIfInBounds_toArray, List.set_cons_succ, List.set_cons_zero]
    refine wpAnyH_ready (rs := [9]) (by kernel_rfl) (by simp) (AllReadyH.cons rfl (fun K hK => ?_) AllReadyH.nil)
    go_simp
    refine (l1Rising_any E r y l _ _ (by exact hE.below ht) HL.out hr).mono ?_
    rintro e wx ⟨rfl, rfl⟩
    rw [HRI.out]
    refine hK.out _ _ ⟨box3_of hcr, box1_of hst⟩ (fun hHeld => ?_)
    clear hK K
    try simp only [Act.put, List.getElem_toArray, List.getElem_cons_succ, List.getElem_cons_zero, List.setIfInBounds_toArray, List.set_cons_succ, List.set_cons_zero]
    refine wpAnyH_take (i := 10) (v := ?_) rfl (by kernel_rfl) (by kernel_rfl) (by kernel_rfl) (fun _ _ _ h => h) (Or.inl ⟨rfl, ?_⟩) hHeld ?_
    rotate_left
    · intro w' hS; obtain ⟨⟨a0, a1, a2⟩, b0, b1⟩ := hS; go_simp <;> with_reducible rfl
    simp only [Act.put, List.getElem_toArray, List.getElem_cons_succ, List.getElem_cons_zero, List.setIfInBounds_toArray, List.set_cons_succ, List.set_cons_zero]
    refine wpAnyH_take (i := 11) (v := ?_) rfl (by kernel_rfl) (by kernel_rfl) (by kernel_rfl) (fun _ _ _ h => h) (Or.inl ⟨rfl, ?_⟩) hHeld ?_
    rotate_left
    · intro w' hS; obtain ⟨⟨a0, a1, a2⟩, b0, b1⟩ := hS; go_simp <;> with_reducible rfl
    simp only [Act.put, List.getElem_toArray, List.getElem_cons_succ, List.getElem_cons_zero, List.setIfInBounds_toArray, List.set_cons_succ, List.set_cons_zero]
    refine wpAnyH_take (i := 12) (v := ?_) rfl (by kernel_rfl) (by kernel_rfl) (by kernel_rfl) (fun _ _ _ h => h) (Or.inl ⟨rfl, ?_⟩) hHeld ?_
    rotate_left
    · intro w' hS; obtain ⟨⟨a0, a1, a2⟩, b0, b1⟩ := hS; go_simp <;> with_reducible rfl
    simp only [Act.put, List.getElem_toArray, List.getElem_cons_succ, List.getElem_cons_zero, List.setIfInBounds_toArray, List.set_cons_succ, List.set_cons_zero]
    refine wpAnyH_take (i := 13) (v := undef) rfl (by kernel_rfl) (by kernel_rfl) (by kernel_rfl) (fun _ _ _ h => h) (Or.inr ⟨by simp [Region.wanted, yielded], rfl⟩) hHeld ?_
    simp only [Act.put, List.getElem_toArray, List.getElem_cons_succ, List.getElem_cons_zero, List.setIfInBounds_toArray, List.set_cons_succ, List.set_cons_zero]
    refine wpAnyH_take (i := 14) (v := undef) rfl (by kernel_rfl) (by kernel_rfl) (by kernel_rfl) (fun _ _ _ h => h) (Or.inr ⟨by simp [Region.wanted, yielded], rfl⟩) hHeld ?_
    simp only [Act.put, List.getElem_toArray, List.getElem_cons_succ, List.getElem_cons_zero, List.setIfInBounds_toArray, List.set_cons_succ, List.set_cons_zero]
    refine wpAnyH_take (i := 15) (v := undef) rfl (by kernel_rfl) (by kernel_rfl) (by kernel_rfl) (fun _ _ _ h => h) (Or.inr ⟨by simp [Region.wanted, yielded], rfl⟩) hHeld ?_
    simp only [Act.put, List.getElem_toArray, List.getElem_cons_succ, List.getElem_cons_zero, List.setIfInBounds_toArray, List.set_cons_succ, List.set_cons_zero]
    refine wpAnyH_take (i := 16) (v := undef) rfl (by kernel_rfl) (by kernel_rfl) (by kernel_rfl) (fun _ _ _ h => h) (Or.inr ⟨by simp [Region.wanted, yielded], rfl⟩) hHeld ?_
    simp only [Act.put, List.getElem_toArray, List.getElem_cons_succ, List.getElem_cons_zero, List.setIfInBounds_toArray, List.set_cons_succ, List.set_cons_zero]
    refine wpAnyH_take (i := 17) (v := undef) rfl (by kernel_rfl) (by kernel_rfl) (by kernel_rfl) (fun _ _ _ h => h) (Or.inr ⟨by simp [Region.wanted, yielded], rfl⟩) hHeld ?_
    simp only [Act.put, List.getElem_toArray, List.getElem_cons_succ, List.getElem_cons_zero, List.setIfInBounds_toArray, List.set_cons_succ, List.set_cons_zero]
    refine wpAnyH_take (i := 18) (v := undef) rfl (by kernel_rfl) (by kernel_rfl) (by kernel_rfl) (fun _ _ _ h => h) (Or.inr ⟨by simp [Region.wanted, yielded], rfl⟩) hHeld ?_
    simp only [Act.put, List.getElem_toArray, List.getElem_cons_succ, List.getElem_cons_zero, List.setIfInBounds_toArray, List.set_cons_succ, List.set_cons_zero]
    refine wpAnyH_take (i := 19) (v := ?_) rfl (by kernel_rfl) (by kernel_rfl) (by kernel_rfl) (fun _ _ _ h => h) (Or.inl ⟨rfl, ?_⟩) hHeld ?_
    rotate_left
    · intro w' hS; obtain ⟨⟨a0, a1, a2⟩, b0, b1⟩ := hS; go_simp <;> with_reducible rfl
    simp only [Act.put, List.getElem_toArray, List.getElem_cons_succ, List.getElem_cons_zero, List.setIfInBounds_toArray, List.set_cons_succ, List.set_cons_zero]
    refine wpAnyH_done (by kernel_rfl) ?_ _
    clear hHeld
    go_wp2
    go_ret
    exact ⟨ret_of (by rw [HO.out]; rfl), ht⟩
  have HRI := Lib.hid hri
  have HRX : Hid (rising l ((xs.length : Int) - 1) = true) := by show _ = _; rw [← hnc]; exact hri
  have HIN : Hid (∀ y ∈ l, 0 ≤ y ∧ y < n) := fun y hy => rising_in hri y hy
  have hr8 : r ≤ 8 := by have := rising_short hri; omega
  have hbd := loadOf_bound HW.out l
  obtain ⟨Wt, hWt⟩ : ∃ Wt, Wt = loadOf xs l := ⟨_, rfl⟩
  have HWT := Lib.hid hWt
  rw [← hWt] at hbd
  have hsm : 0 ≤ s ∧ s ≤ 2000 := hcw.most
  clear hri hx hy hqq hl hsl hcw hnc
  by_cases hle : s < Wt
  · have HO := Lib.hid (ride_load (bs := bs) (sb := sb) (t := t) (by rw [← hWt]; exact hle))
    have hd : decide (Wt > s) = true := by simp; omega
    clear hWt
    go_enter Try.func85, Try.ntmps85
    go_wp2_with fail
    refine wp_region_held_drew (S := (fun w' => Box3 w.heap.size (.slice A n c) (.slice B m d) (.int .i64 s) w' ∧ Box1 (w.heap.size + 1) (.slice D q z) (.bool t) w')) (by kernel_rfl) ⟨box3_of hcr.drew, box1_of hst.drew⟩ (fun hHeld => ?_)
    replace hcr := hcr.drew
    replace hst := hst.drew
    replace ht := ht.drew
    generalize World.drew (World.alloc (World.alloc w (.cells #[.slice A n c, .slice B m d, .int .i64 s] 40)) (.cells #[.slice D q z, .bool t] 38)) = wd at hcr hst ht hHeld ⊢
    refine wpAnyH_take (i := 0) (v := ?_) rfl (by kernel_rfl) (by kernel_rfl) (by kernel_rfl) (fun _ _ _ h => h) (Or.inl ⟨rfl, ?_⟩) hHeld ?_
    rotate_left
    · intro w' hS; obtain ⟨⟨a0, a1, a2⟩, b0, b1⟩ := hS; go_simp <;> with_reducible rfl
    simp only [Act.put, List.getElem_toArray, List.getElem_cons_succ, List.getElem_cons_zero, List.setIfInBounds_toArray, List.set_cons_succ, List.set_cons_zero]
    refine wpAnyH_take (i := 1) (v := ?_) rfl (by kernel_rfl) (by kernel_rfl) (by kernel_rfl) (fun _ _ _ h => h) (Or.inl ⟨rfl, ?_⟩) hHeld ?_
    rotate_left
    · intro w' hS; obtain ⟨⟨a0, a1, a2⟩, b0, b1⟩ := hS; go_simp <;> with_reducible rfl
    simp only [Act.put, List.getElem_toArray, List.getElem_cons_succ, List.getElem_cons_zero, List.setIfInBounds_toArray, List.set_cons_succ, List.set_cons_zero]
    refine wpAnyH_take (i := 2) (v := ?_) rfl (by kernel_rfl) (by kernel_rfl) (by kernel_rfl) (fun _ _ _ h => h) (Or.inl ⟨rfl, ?_⟩) hHeld ?_
    rotate_left
    · intro w' hS; obtain ⟨⟨a0, a1, a2⟩, b0, b1⟩ := hS; go_simp <;> with_reducible rfl
    simp only [Act.put, List.getElem_toArray, List.getElem_cons_succ, List.getElem_cons_zero, List.setIfInBounds_toArray, List.set_cons_succ, List.set_cons_zero]
    refine wpAnyH_take (i := 3) (v := ?_) rfl (by kernel_rfl) (by kernel_rfl) (by kernel_rfl) (fun _ _ _ h => h) (Or.inl ⟨rfl, ?_⟩) hHeld ?_
    rotate_left
    · intro w' hS; obtain ⟨⟨a0, a1, a2⟩, b0, b1⟩ := hS; go_simp <;> with_reducible rfl
    simp only [Act.put, List.getElem_toArray, List.getElem_cons_succ, List.getElem_cons_zero, List.setIfInBounds_toArray, List.set_cons_succ, List.set_cons_zero]
    refine wpAnyH_take (i := 4) (v := ?_) rfl (by kernel_rfl) (by kernel_rfl) (by kernel_rfl) (fun _ _ _ h => h) (Or.inl ⟨rfl, ?_⟩) hHeld ?_
    rotate_left
    · intro w' hS; obtain ⟨⟨a0, a1, a2⟩, b0, b1⟩ := hS; go_simp <;> with_reducible rfl
    simp only [Act.put, List.getElem_toArray, List.getElem_cons_succ, List.getElem_cons_zero, List.setIfInBounds_toArray, List.set_cons_succ, List.set_cons_zero]
    refine wpAnyH_take (i := 5) (v := ?_) rfl (by kernel_rfl) (by kernel_rfl) (by kernel_rfl) (fun _ _ _ h => h) (Or.inl ⟨rfl, ?_⟩) hHeld ?_
    rotate_left
    · intro w' hS; obtain ⟨⟨a0, a1, a2⟩, b0, b1⟩ := hS; go_simp <;> with_reducible rfl
    simp only [Act.put, List.getElem_toArray, List.getElem_cons_succ, List.getElem_cons_zero, List.setIfInBounds_toArray, List.set_cons_succ, List.set_cons_zero]
    refine wpAnyH_take (i := 6) (v := ?_) rfl (by kernel_rfl) (by kernel_rfl) (by kernel_rfl) (fun _ _ _ h => h) (Or.inl ⟨rfl, ?_⟩) hHeld ?_
    rotate_left
    · intro w' hS; obtain ⟨⟨a0, a1, a2⟩, b0, b1⟩ := hS; go_simp <;> with_reducible rfl
    simp only [Act.put, List.getElem_toArray, List.getElem_cons_succ, List.getElem_cons_zero, List.setIfInBounds_toArray, List.set_cons_succ, List.set_cons_zero]
    refine wpAnyH_take (i := 7) (v := ?_) rfl (by kernel_rfl) (by kernel_rfl) (by kernel_rfl) (fun _ _ _ h => h) (Or.inl ⟨rfl, ?_⟩) hHeld ?_
    rotate_left
    · intro w' hS; obtain ⟨⟨a0, a1, a2⟩, b0, b1⟩ := hS; go_simp <;> with_reducible rfl
    simp only [Act.put, List.getElem_toArray, List.getElem_cons_succ, List.getElem_cons_zero, List.setIfInBounds_toArray, List.set_cons_succ, List.set_cons_zero]
    refine wpAnyH_take (i := 8) (v := ?_) rfl (by kernel_rfl) (by kernel_rfl) (by kernel_rfl) (fun _ _ _ h => h) (Or.inl ⟨rfl, ?_⟩) hHeld ?_
    rotate_left
    · intro w' hS; obtain ⟨⟨a0, a1, a2⟩, b0, b1⟩ := hS; go_simp <;> with_reducible rfl
    simp only [Act.put, List.getElem_toArray, List.getElem_cons_succ, List.getElem_cons_zero, List.setIfInBounds_toArray, List.set_cons_succ, List.set_cons_zero]
    refine wpAnyH_ready (rs := [9]) (by kernel_rfl) (by simp) (AllReadyH.cons rfl (fun K hK => ?_) AllReadyH.nil)
    go_simp
    refine (l1Rising_any E r y l _ _ (by exact hE.below ht) HL.out hr).mono ?_
    rintro e wx ⟨rfl, rfl⟩
    rw [HRI.out]
    refine hK.out _ _ ⟨box3_of hcr, box1_of hst⟩ (fun hHeld => ?_)
    clear hK K
    try simp only [Act.put, List.getElem_toArray, List.getElem_cons_succ, List.getElem_cons_zero, List.setIfInBounds_toArray, List.set_cons_succ, List.set_cons_zero]
    refine wpAnyH_take (i := 10) (v := ?_) rfl (by kernel_rfl) (by kernel_rfl) (by kernel_rfl) (fun _ _ _ h => h) (Or.inl ⟨rfl, ?_⟩) hHeld ?_
    rotate_left
    · intro w' hS; obtain ⟨⟨a0, a1, a2⟩, b0, b1⟩ := hS; go_simp <;> with_reducible rfl
    simp only [Act.put, List.getElem_toArray, List.getElem_cons_succ, List.getElem_cons_zero, List.setIfInBounds_toArray, List.set_cons_succ, List.set_cons_zero]
    refine wpAnyH_take (i := 11) (v := ?_) rfl (by kernel_rfl) (by kernel_rfl) (by kernel_rfl) (fun _ _ _ h => h) (Or.inl ⟨rfl, ?_⟩) hHeld ?_
    rotate_left
    · intro w' hS; obtain ⟨⟨a0, a1, a2⟩, b0, b1⟩ := hS; go_simp <;> with_reducible rfl
    simp only [Act.put, List.getElem_toArray, List.getElem_cons_succ, List.getElem_cons_zero, List.setIfInBounds_toArray, List.set_cons_succ, List.set_cons_zero]
    refine wpAnyH_take (i := 12) (v := ?_) rfl (by kernel_rfl) (by kernel_rfl) (by kernel_rfl) (fun _ _ _ h => h) (Or.inl ⟨rfl, ?_⟩) hHeld ?_
    rotate_left
    · intro w' hS; obtain ⟨⟨a0, a1, a2⟩, b0, b1⟩ := hS; go_simp <;> with_reducible rfl
    simp only [Act.put, List.getElem_toArray, List.getElem_cons_succ, List.getElem_cons_zero, List.setIfInBounds_toArray, List.set_cons_succ, List.set_cons_zero]
    refine wpAnyH_take (i := 13) (v := ?_) rfl (by kernel_rfl) (by kernel_rfl) (by kernel_rfl) (fun _ _ _ h => h) (Or.inl ⟨rfl, ?_⟩) hHeld ?_
    rotate_left
    · intro w' hS; obtain ⟨⟨a0, a1, a2⟩, b0, b1⟩ := hS; go_simp <;> with_reducible rfl
    simp only [Act.put, List.getElem_toArray, List.getElem_cons_succ, List.getElem_cons_zero, List.setIfInBounds_toArray, List.set_cons_succ, List.set_cons_zero]
    refine wpAnyH_take (i := 14) (v := ?_) rfl (by kernel_rfl) (by kernel_rfl) (by kernel_rfl) (fun _ _ _ h => h) (Or.inl ⟨rfl, ?_⟩) hHeld ?_
    rotate_left
    · intro w' hS; obtain ⟨⟨a0, a1, a2⟩, b0, b1⟩ := hS; go_simp <;> with_reducible rfl
    simp only [Act.put, List.getElem_toArray, List.getElem_cons_succ, List.getElem_cons_zero, List.setIfInBounds_toArray, List.set_cons_succ, List.set_cons_zero]
    refine wpAnyH_take (i := 16) (v := ?_) rfl (by kernel_rfl) (by kernel_rfl) (by kernel_rfl) (fun _ _ _ h => h) (Or.inl ⟨rfl, ?_⟩) hHeld ?_
    rotate_left
    · intro w' hS; obtain ⟨⟨a0, a1, a2⟩, b0, b1⟩ := hS; go_simp <;> with_reducible rfl
    simp only [Act.put, List.getElem_toArray, List.getElem_cons_succ, List.getElem_cons_zero, List.setIfInBounds_toArray, List.set_cons_succ, List.set_cons_zero]
    refine wpAnyH_take (i := 17) (v := ?_) rfl (by kernel_rfl) (by kernel_rfl) (by kernel_rfl) (fun _ _ _ h => h) (Or.inl ⟨rfl, ?_⟩) hHeld ?_
    rotate_left
    · intro w' hS; obtain ⟨⟨a0, a1, a2⟩, b0, b1⟩ := hS; go_simp <;> with_reducible rfl
    simp only [Act.put, List.getElem_toArray, List.getElem_cons_succ, List.getElem_cons_zero, List.setIfInBounds_toArray, List.set_cons_succ, List.set_cons_zero]
    refine wpAnyH_ready (rs := [15]) (by kernel_rfl) (by simp) (AllReadyH.cons rfl (fun K hK => ?_) AllReadyH.nil)
    go_simp
    refine (loLoad_any A n c B m d xs s E r y l _ (by exact hA.below ht) (by exact hE.below ht) HX.out HL.out hn7 hr HW.out HIN.out hr8).mono ?_
    rintro e wx ⟨rfl, hb⟩
    replace hcr := hcr.below hb
    replace hst := hst.below hb
    replace ht := below_then ht hb ht.size
    clear hb
    refine hK.out _ _ ⟨box3_of hcr, box1_of hst⟩ (fun hHeld => ?_)
    clear hK K
    try simp only [Act.put, List.getElem_toArray, List.getElem_cons_succ, List.getElem_cons_zero, List.setIfInBounds_toArray, List.set_cons_succ, List.set_cons_zero]
    refine wpAnyH_take (i := 18) (v := ?_) rfl (by kernel_rfl) (by kernel_rfl) (by kernel_rfl) (fun _ _ _ h => h) (Or.inl ⟨rfl, ?_⟩) hHeld ?_
    rotate_left
    · intro w' hS; obtain ⟨⟨a0, a1, a2⟩, b0, b1⟩ := hS; go_simp <;> with_reducible rfl
    simp only [Act.put, List.getElem_toArray, List.getElem_cons_succ, List.getElem_cons_zero, List.setIfInBounds_toArray, List.set_cons_succ, List.set_cons_zero]
    refine wpAnyH_take (i := 19) (v := ?_) rfl (by kernel_rfl) (by kernel_rfl) (by kernel_rfl) (fun _ _ _ h => h) (Or.inl ⟨rfl, ?_⟩) hHeld ?_
    rotate_left
    · intro w' hS; obtain ⟨⟨a0, a1, a2⟩, b0, b1⟩ := hS; go_simp <;> with_reducible rfl
    simp only [Act.put, List.getElem_toArray, List.getElem_cons_succ, List.getElem_cons_zero, List.setIfInBounds_toArray, List.set_cons_succ, List.set_cons_zero]
    refine wpAnyH_done (by kernel_rfl) ?_ _
    clear hHeld
    rw [← HWT.out]
    go_wp2
    go_ret
    exact ⟨ret_of (by rw [HO.out]; rfl), ht⟩
  have hd : decide (Wt > s) = false := by simp; omega
  have HLE := Lib.hid (show loadOf xs l ≤ s by rw [← hWt]; omega)
  clear hWt hd
  have hd : decide (s < Wt) = false := by simpa using hle
  go_enter Try.func85, Try.ntmps85
  go_wp2_with fail
  refine wp_region_held_drew (S := (fun w' => Box3 w.heap.size (.slice A n c) (.slice B m d) (.int .i64 s) w' ∧ Box1 (w.heap.size + 1) (.slice D q z) (.bool t) w')) (by kernel_rfl) ⟨box3_of hcr.drew, box1_of hst.drew⟩ (fun hHeld => ?_)
  replace hcr := hcr.drew
  replace hst := hst.drew
  replace ht := ht.drew
  generalize World.drew (World.alloc (World.alloc w (.cells #[.slice A n c, .slice B m d, .int .i64 s] 40)) (.cells #[.slice D q z, .bool t] 38)) = wd at hcr hst ht hHeld ⊢
  refine wpAnyH_take (i := 0) (v := ?_) rfl (by kernel_rfl) (by kernel_rfl) (by kernel_rfl) (fun _ _ _ h => h) (Or.inl ⟨rfl, ?_⟩) hHeld ?_
  rotate_left
  · intro w' hS; obtain ⟨⟨a0, a1, a2⟩, b0, b1⟩ := hS; go_simp <;> with_reducible rfl
  simp only [Act.put, List.getElem_toArray, List.getElem_cons_succ, List.getElem_cons_zero, List.setIfInBounds_toArray, List.set_cons_succ, List.set_cons_zero]
  refine wpAnyH_take (i := 1) (v := ?_) rfl (by kernel_rfl) (by kernel_rfl) (by kernel_rfl) (fun _ _ _ h => h) (Or.inl ⟨rfl, ?_⟩) hHeld ?_
  rotate_left
  · intro w' hS; obtain ⟨⟨a0, a1, a2⟩, b0, b1⟩ := hS; go_simp <;> with_reducible rfl
  simp only [Act.put, List.getElem_toArray, List.getElem_cons_succ, List.getElem_cons_zero, List.setIfInBounds_toArray, List.set_cons_succ, List.set_cons_zero]
  refine wpAnyH_take (i := 2) (v := ?_) rfl (by kernel_rfl) (by kernel_rfl) (by kernel_rfl) (fun _ _ _ h => h) (Or.inl ⟨rfl, ?_⟩) hHeld ?_
  rotate_left
  · intro w' hS; obtain ⟨⟨a0, a1, a2⟩, b0, b1⟩ := hS; go_simp <;> with_reducible rfl
  simp only [Act.put, List.getElem_toArray, List.getElem_cons_succ, List.getElem_cons_zero, List.setIfInBounds_toArray, List.set_cons_succ, List.set_cons_zero]
  refine wpAnyH_take (i := 3) (v := ?_) rfl (by kernel_rfl) (by kernel_rfl) (by kernel_rfl) (fun _ _ _ h => h) (Or.inl ⟨rfl, ?_⟩) hHeld ?_
  rotate_left
  · intro w' hS; obtain ⟨⟨a0, a1, a2⟩, b0, b1⟩ := hS; go_simp <;> with_reducible rfl
  simp only [Act.put, List.getElem_toArray, List.getElem_cons_succ, List.getElem_cons_zero, List.setIfInBounds_toArray, List.set_cons_succ, List.set_cons_zero]
  refine wpAnyH_take (i := 4) (v := ?_) rfl (by kernel_rfl) (by kernel_rfl) (by kernel_rfl) (fun _ _ _ h => h) (Or.inl ⟨rfl, ?_⟩) hHeld ?_
  rotate_left
  · intro w' hS; obtain ⟨⟨a0, a1, a2⟩, b0, b1⟩ := hS; go_simp <;> with_reducible rfl
  simp only [Act.put, List.getElem_toArray, List.getElem_cons_succ, List.getElem_cons_zero, List.setIfInBounds_toArray, List.set_cons_succ, List.set_cons_zero]
  refine wpAnyH_take (i := 5) (v := ?_) rfl (by kernel_rfl) (by kernel_rfl) (by kernel_rfl) (fun _ _ _ h => h) (Or.inl ⟨rfl, ?_⟩) hHeld ?_
  rotate_left
  · intro w' hS; obtain ⟨⟨a0, a1, a2⟩, b0, b1⟩ := hS; go_simp <;> with_reducible rfl
  simp only [Act.put, List.getElem_toArray, List.getElem_cons_succ, List.getElem_cons_zero, List.setIfInBounds_toArray, List.set_cons_succ, List.set_cons_zero]
  refine wpAnyH_take (i := 6) (v := ?_) rfl (by kernel_rfl) (by kernel_rfl) (by kernel_rfl) (fun _ _ _ h => h) (Or.inl ⟨rfl, ?_⟩) hHeld ?_
  rotate_left
  · intro w' hS; obtain ⟨⟨a0, a1, a2⟩, b0, b1⟩ := hS; go_simp <;> with_reducible rfl
  simp only [Act.put, List.getElem_toArray, List.getElem_cons_succ, List.getElem_cons_zero, List.setIfInBounds_toArray, List.set_cons_succ, List.set_cons_zero]
  refine wpAnyH_take (i := 7) (v := ?_) rfl (by kernel_rfl) (by kernel_rfl) (by kernel_rfl) (fun _ _ _ h => h) (Or.inl ⟨rfl, ?_⟩) hHeld ?_
  rotate_left
  · intro w' hS; obtain ⟨⟨a0, a1, a2⟩, b0, b1⟩ := hS; go_simp <;> with_reducible rfl
  simp only [Act.put, List.getElem_toArray, List.getElem_cons_succ, List.getElem_cons_zero, List.setIfInBounds_toArray, List.set_cons_succ, List.set_cons_zero]
  refine wpAnyH_take (i := 8) (v := ?_) rfl (by kernel_rfl) (by kernel_rfl) (by kernel_rfl) (fun _ _ _ h => h) (Or.inl ⟨rfl, ?_⟩) hHeld ?_
  rotate_left
  · intro w' hS; obtain ⟨⟨a0, a1, a2⟩, b0, b1⟩ := hS; go_simp <;> with_reducible rfl
  simp only [Act.put, List.getElem_toArray, List.getElem_cons_succ, List.getElem_cons_zero, List.setIfInBounds_toArray, List.set_cons_succ, List.set_cons_zero]
  refine wpAnyH_ready (rs := [9]) (by kernel_rfl) (by simp) (AllReadyH.cons rfl (fun K hK => ?_) AllReadyH.nil)
  go_simp
  refine (l1Rising_any E r y l _ _ (by exact hE.below ht) HL.out hr).mono ?_
  rintro e wx ⟨rfl, rfl⟩
  rw [HRI.out]
  refine hK.out _ _ ⟨box3_of hcr, box1_of hst⟩ (fun hHeld => ?_)
  clear hK K
  try simp only [Act.put, List.getElem_toArray, List.getElem_cons_succ, List.getElem_cons_zero, List.setIfInBounds_toArray, List.set_cons_succ, List.set_cons_zero]
  refine wpAnyH_take (i := 10) (v := ?_) rfl (by kernel_rfl) (by kernel_rfl) (by kernel_rfl) (fun _ _ _ h => h) (Or.inl ⟨rfl, ?_⟩) hHeld ?_
  rotate_left
  · intro w' hS; obtain ⟨⟨a0, a1, a2⟩, b0, b1⟩ := hS; go_simp <;> with_reducible rfl
  simp only [Act.put, List.getElem_toArray, List.getElem_cons_succ, List.getElem_cons_zero, List.setIfInBounds_toArray, List.set_cons_succ, List.set_cons_zero]
  refine wpAnyH_take (i := 11) (v := ?_) rfl (by kernel_rfl) (by kernel_rfl) (by kernel_rfl) (fun _ _ _ h => h) (Or.inl ⟨rfl, ?_⟩) hHeld ?_
  rotate_left
  · intro w' hS; obtain ⟨⟨a0, a1, a2⟩, b0, b1⟩ := hS; go_simp <;> with_reducible rfl
  simp only [Act.put, List.getElem_toArray, List.getElem_cons_succ, List.getElem_cons_zero, List.setIfInBounds_toArray, List.set_cons_succ, List.set_cons_zero]
  refine wpAnyH_take (i := 12) (v := ?_) rfl (by kernel_rfl) (by kernel_rfl) (by kernel_rfl) (fun _ _ _ h => h) (Or.inl ⟨rfl, ?_⟩) hHeld ?_
  rotate_left
  · intro w' hS; obtain ⟨⟨a0, a1, a2⟩, b0, b1⟩ := hS; go_simp <;> with_reducible rfl
  simp only [Act.put, List.getElem_toArray, List.getElem_cons_succ, List.getElem_cons_zero, List.setIfInBounds_toArray, List.set_cons_succ, List.set_cons_zero]
  refine wpAnyH_take (i := 13) (v := ?_) rfl (by kernel_rfl) (by kernel_rfl) (by kernel_rfl) (fun _ _ _ h => h) (Or.inl ⟨rfl, ?_⟩) hHeld ?_
  rotate_left
  · intro w' hS; obtain ⟨⟨a0, a1, a2⟩, b0, b1⟩ := hS; go_simp <;> with_reducible rfl
  simp only [Act.put, List.getElem_toArray, List.getElem_cons_succ, List.getElem_cons_zero, List.setIfInBounds_toArray, List.set_cons_succ, List.set_cons_zero]
  refine wpAnyH_take (i := 14) (v := ?_) rfl (by kernel_rfl) (by kernel_rfl) (by kernel_rfl) (fun _ _ _ h => h) (Or.inl ⟨rfl, ?_⟩) hHeld ?_
  rotate_left
  · intro w' hS; obtain ⟨⟨a0, a1, a2⟩, b0, b1⟩ := hS; go_simp <;> with_reducible rfl
  simp only [Act.put, List.getElem_toArray, List.getElem_cons_succ, List.getElem_cons_zero, List.setIfInBounds_toArray, List.set_cons_succ, List.set_cons_zero]
  refine wpAnyH_take (i := 16) (v := ?_) rfl (by kernel_rfl) (by kernel_rfl) (by kernel_rfl) (fun _ _ _ h => h) (Or.inl ⟨rfl, ?_⟩) hHeld ?_
  rotate_left
  · intro w' hS; obtain ⟨⟨a0, a1, a2⟩, b0, b1⟩ := hS; go_simp <;> with_reducible rfl
  simp only [Act.put, List.getElem_toArray, List.getElem_cons_succ, List.getElem_cons_zero, List.setIfInBounds_toArray, List.set_cons_succ, List.set_cons_zero]
  refine wpAnyH_take (i := 17) (v := ?_) rfl (by kernel_rfl) (by kernel_rfl) (by kernel_rfl) (fun _ _ _ h => h) (Or.inl ⟨rfl, ?_⟩) hHeld ?_
  rotate_left
  · intro w' hS; obtain ⟨⟨a0, a1, a2⟩, b0, b1⟩ := hS; go_simp <;> with_reducible rfl
  simp only [Act.put, List.getElem_toArray, List.getElem_cons_succ, List.getElem_cons_zero, List.setIfInBounds_toArray, List.set_cons_succ, List.set_cons_zero]
  refine wpAnyH_ready (rs := [15]) (by kernel_rfl) (by simp) (AllReadyH.cons rfl (fun K hK => ?_) AllReadyH.nil)
  go_simp
  refine (loLoad_any A n c B m d xs s E r y l _ (by exact hA.below ht) (by exact hE.below ht) HX.out HL.out hn7 hr HW.out HIN.out hr8).mono ?_
  rintro e wx ⟨rfl, hb⟩
  replace hcr := hcr.below hb
  replace hst := hst.below hb
  replace ht := below_then ht hb ht.size
  clear hb
  refine hK.out _ _ ⟨box3_of hcr, box1_of hst⟩ (fun hHeld => ?_)
  clear hK K
  try simp only [Act.put, List.getElem_toArray, List.getElem_cons_succ, List.getElem_cons_zero, List.setIfInBounds_toArray, List.set_cons_succ, List.set_cons_zero]
  refine wpAnyH_take (i := 18) (v := ?_) rfl (by kernel_rfl) (by kernel_rfl) (by kernel_rfl) (fun _ _ _ h => h) (Or.inl ⟨rfl, ?_⟩) hHeld ?_
  rotate_left
  · intro w' hS; obtain ⟨⟨a0, a1, a2⟩, b0, b1⟩ := hS; go_simp <;> with_reducible rfl
  simp only [Act.put, List.getElem_toArray, List.getElem_cons_succ, List.getElem_cons_zero, List.setIfInBounds_toArray, List.set_cons_succ, List.set_cons_zero]
  refine wpAnyH_take (i := 19) (v := ?_) rfl (by kernel_rfl) (by kernel_rfl) (by kernel_rfl) (fun _ _ _ h => h) (Or.inl ⟨rfl, ?_⟩) hHeld ?_
  rotate_left
  · intro w' hS; obtain ⟨⟨a0, a1, a2⟩, b0, b1⟩ := hS; go_simp <;> with_reducible rfl
  simp only [Act.put, List.getElem_toArray, List.getElem_cons_succ, List.getElem_cons_zero, List.setIfInBounds_toArray, List.set_cons_succ, List.set_cons_zero]
  refine wpAnyH_done (by kernel_rfl) ?_ _
  clear hHeld
  rw [← HWT.out]
  obtain ⟨c0, c1, c2⟩ := hcr.cells3
  obtain ⟨d0, d1, -, -⟩ := hst.two
  have hE2 := hE.below ht
  have hD2 := hD.below ht
  have hB2 := hB.below ht
  clear hcr hst
  obtain ⟨w1, hw1⟩ : ∃ W, W = wx := ⟨_, rfl⟩
  rw [← hw1] at ht hE2 hD2 hB2 c0 c1 c2 d0 d1 ⊢
  clear hw1
  go_wp2
  go_loopw [7, 32] (fun v i wr => ∃ k x : Nat, k ≤ r ∧ i = .int .i64 k ∧ v = .bool (canRow bs (l.take k)) ∧ wr = w1.drewN x ∧ AtTo sb t l k) (fun _ i _ => r - (intOf i).toNat)
  case atStart => exact ⟨0, 0, Nat.zero_le _, rfl, rfl, rfl, fun _ _ h => absurd h (by omega)⟩
  case round =>
    obtain ⟨k, x, hk, rfl, rfl, rfl, hat⟩ := hrel
    by_cases hlt : k < r
    · have hkl : k < l.length := by have := HL.out; omega
      obtain ⟨b, o, rfl, hbl, hc⟩ := hE2.look (k := k) (by simpa [nums] using hkl)
      simp only [nums, List.getElem_map] at hc
      obtain ⟨hlo, hup⟩ := HIN.out _ (List.getElem_mem hkl)
      have hix : (l[k]).toNat < sb.length := by have := HSL.out; have := HX.out; omega
      obtain ⟨b', o', rfl, hbl', hc'⟩ := hD2.look (k := (l[k]).toNat) (by simpa [bits] using hix)
      have hiy : (l[k]).toNat < bs.length := by have := HR.out; have := HX.out; have := HY.out; omega
      obtain ⟨b'', o'', rfl, hbl'', hc''⟩ := hB2.look (k := (l[k]).toNat) (by simpa [bits] using hiy)
      simp only [bits, List.getElem_map] at hc' hc''
      have hupq : l[k] < q := by have := HQ.out; omega
      have hupm : l[k] < m := by have := HY.out; omega
      have hgd : sb.getD (l[k]).toNat false = sb[(l[k]).toNat] := by simp [hix]
      have hge : bs.getD (l[k]).toNat false = bs[(l[k]).toNat] := by simp [hiy]
      have hcn := canRow_next (bs := bs) hkl
      rw [hge] at hcn
      by_cases he : sb[(l[k]).toNat] = t
      · have hne : (!(sb[(l[k]).toNat] == t)) = false := by simp [he]
        have HE := Lib.hid (hgd.trans he)
        have HCN := Lib.hid hcn
        clear he hgd hge hcn
        cases hrw : canRow bs (l.take k)
        all_goals
          have HRW := Lib.hid hrw
          clear hrw
          go_wp2
          go_quiet (fail)
          go_wp2
          go_roundw
          case rel => exact ⟨k + 1, x + _, by omega, by go_num, by rw [HCN.out, HRW.out]; rfl, rfl, fun j h hj => (Nat.lt_succ_iff_lt_or_eq.1 hj).elim (hat j h) (fun e => by subst e; exact HE.out)⟩
          case measure => simp [intOf]; omega
      · have hne : (!(sb[(l[k]).toNat] == t)) = true := by simp [he]
        have HN := Lib.hid (ride_at (xs := xs) (bs := bs) (s := s) (allAt_no (bs := sb) (t := t) hkl (by rw [hgd]; exact he)))
        clear he hgd hge hcn
        go_wp2
        go_quiet (fail)
        go_wp2
        go_ret
        exact ⟨ret_of (by rw [HN.out]; rfl), below_draws (below_draws ht _) _⟩
    · have HN := Lib.hid (ride_yes (bs := bs) H0.out HRX.out HLE.out (allAt_yes (bs := sb) (t := t) (l := l) (fun j hj => hat j hj (by have := HL.out; omega))))
      have hkr : k = l.length := by have := HL.out; omega
      subst hkr
      rw [List.take_length]
      go_wp2
      go_ret
      exact ⟨ret_of (by rw [HN.out]; rfl), below_draws ht _⟩
end Go.Proofs.Ytkocompjjogciaa

namespace Go.Proofs.Ytkocompjjogciaa
open Go.RowKit

/-- What calmPlaceOf hands back. -/
def CalmPlacePost (a b : Int) (bs : List Bool) (t : Bool) (w : World) (e : Ending) (w' : World) : Prop :=
  ((isPlace a b bs t = true ∧ e = .returned (.tuple #[.agg (placeCells bs t), .bool (calmIn a b bs t)])) ∨ (isPlace a b bs t = false ∧ e = .returned (.tuple #[.agg (placeCells [] false), .bool false]))) ∧ Below w.heap.size w w'

end Go.Proofs.Ytkocompjjogciaa

namespace Go.Proofs.Ytkocompjjogciaa
open Go.RowKit

/-- What is left of l behind two lists, or -1. -/
def crewLeft (l : Int) (n m : Nat) : Int := if l - n - m < 0 then -1 else l - n - m
theorem crewLeft_bad {l : Int} {n m : Nat} (h : l - n - m < 0) : crewLeft l n m = -1 := if_pos h
theorem crewLeft_ok {l : Int} {n m : Nat} (h : ¬ l - n - m < 0) : crewLeft l n m = l - n - m := if_neg h

set_option maxHeartbeats 400000 in
theorem szCrew_any (A : Option Addr) (n c : Nat) (B : Option Addr) (m d : Nat) (s l : Int) (w : World) (hn : n ≤ 9223372036854775807) (hm : m ≤ 9223372036854775807) (h0 : 0 ≤ l) (h1 : l ≤ 1048576) :
    Calls Try.prog 20 #[.agg #[.slice A n c, .slice B m d, .int .i64 s], .int .i64 l] w fun e w' => e = .returned (.int .i64 (crewLeft l n m)) ∧ Below w.heap.size w w' := by
  by_cases h : l < n
  · go_enter Try.func20, Try.ntmps20
    go_wp2_with fail
    refine (szIntS_any A n c l _ hn h0 h1).mono ?_
    rintro e w' ⟨rfl, rfl⟩
    rw [if_pos (by assumption)]
    go_wp2
    go_ret
    exact ⟨ret_of (by rw [crewLeft_bad (by omega)]; rfl), (Below.refl _ _).alloc (Nat.le_refl _) _⟩
  · have h0' : 0 ≤ l - n := by omega
    have h1' : ¬ l - n < 0 := by omega
    by_cases h2 : l - n < m
    all_goals
      go_enter Try.func20, Try.ntmps20
      go_wp2_with fail
      refine (szIntS_any A n c l _ hn h0 h1).mono ?_
      rintro e w' ⟨rfl, rfl⟩
      rw [if_neg (by omega)]
      go_wp2_with fail
      refine (szBoolS_any B m d (l - n) _ hm h0' (by omega)).mono ?_
      rintro e w' ⟨rfl, rfl⟩
      first | rw [if_pos (by assumption)] | rw [if_neg (by omega)]
      go_wp2
      go_ret
      exact ⟨ret_of (by first | (rw [crewLeft_bad (by omega)]; rfl) | (rw [crewLeft_ok (by omega)]; rfl)), (Below.refl _ _).alloc (Nat.le_refl _) _⟩

/-- What toCrew hands back. -/
def CrewTo (xs : List Int) (bs : List Bool) (n m : Nat) (s : Int) (w : World) (e : Ending) (w' : World) : Prop :=
  ∃ g h : Nat, e = .returned (.agg #[.slice (some ⟨g, 0, none⟩) n n, .slice (some ⟨h, 0, none⟩) m m, .int .i64 s]) ∧ w.heap.size ≤ g ∧ Whole w' g 3 (nums xs).toArray ∧ g < h ∧ Whole w' h 4 (bits bs).toArray ∧ Below w.heap.size w w'

set_option maxHeartbeats 1600000 in
theorem toCrew_own (A : Option Addr) (n c : Nat) (xs : List Int) (B : Option Addr) (m d : Nat) (bs : List Bool) (s : Int) (w : World) (hA : Holds w A (nums xs)) (hB : Holds w B (bits bs)) (hx : xs.length = n) (hy : bs.length = m) (hn : n ≤ 1048576) (hm : m ≤ 1048576) :
    Calls Try.prog 23 #[.agg #[.slice A n c, .slice B m d, .int .i64 s]] w (CrewTo xs bs n m s w) := by
  have HX := Lib.hid hx
  have HY := Lib.hid hy
  clear hx hy
  go_enter Try.func23, Try.ntmps23
  go_wp2_with fail
  refine (toIntS_any A n c xs _ (((hA.alloc _).alloc _).alloc _) HX.out hn).mono ?_
  rintro e w1 ⟨rfl, hw, hb, hs⟩
  have hy0 := ((Whole.fresh (w.alloc (.cells #[.slice A n c, .slice B m d, .int .i64 s] 32)) 40 #[.slice none 0 0, .slice none 0 0, .int .i64 0]).alloc (.cells #[.slice none 0 0, .slice none 0 0, .int .i64 0] 40)).below hb
  have hz0 := (Whole.fresh ((w.alloc (.cells #[.slice A n c, .slice B m d, .int .i64 s] 32)).alloc (.cells #[.slice none 0 0, .slice none 0 0, .int .i64 0] 40)) 40 #[.slice none 0 0, .slice none 0 0, .int .i64 0]).below hb
  have ha0 := (((Whole.fresh w 32 #[.slice A n c, .slice B m d, .int .i64 s]).alloc (.cells #[.slice none 0 0, .slice none 0 0, .int .i64 0] 40)).alloc (.cells #[.slice none 0 0, .slice none 0 0, .int .i64 0] 40)).below hb
  simp only [World.size_alloc] at hy0 hz0
  obtain ⟨ac0, ac1, ac2⟩ := ha0.cells3
  obtain ⟨yc0, yc1, yc2⟩ := hy0.cells3
  obtain ⟨zc0, zc1, zc2⟩ := hz0.cells3
  have zf0 := hz0.open_ 0
  have HS := Lib.hid hs
  have hz : w1.heap.size = w.heap.size + 4 := by have := HS.out; simp at this; omega
  clear hs
  have hw' : Whole w1 (w.heap.size + 1 + 1 + 1) 3 (nums xs).toArray := by simpa using hw
  have hb' : Below w.heap.size w w1 := below_then (below3 w _ _ _) hb (by simp; omega)
  clear hw
  have HZ := Lib.hid hz
  clear hz
  go_wp2_with fail
  have hz := HZ.out
  have hb2 : Below w.heap.size w (w1.setCell ⟨w.heap.size + 1 + 1, 0, none⟩ (.slice (some ⟨w.heap.size + 1 + 1 + 1, 0, none⟩) n n)) := below_set hb' (by omega)
  refine (toBoolS_any B m d bs _ (by exact hB.below hb2) HY.out hm).mono ?_
  rintro e w2 ⟨rfl, hv, hb3, hs2⟩
  have hy1 := (hy0.off (by omega)).below hb3
  have hz1 := (hz0.set_ 0 (.slice (some ⟨w.heap.size + 1 + 1 + 1, 0, none⟩) n n)).below hb3
  obtain ⟨yd0, yd1, yd2⟩ := hy1.cells3
  obtain ⟨zd0, zd1, zd2⟩ := (show Whole w2 (w.heap.size + 1 + 1) 40 #[.slice (some ⟨w.heap.size + 1 + 1 + 1, 0, none⟩) n n, .slice none 0 0, .int .i64 0] by simpa using hz1).cells3
  have ha1 := (ha0.off (b := w.heap.size + 1 + 1) (o := 0) (u := .slice (some ⟨w.heap.size + 1 + 1 + 1, 0, none⟩) n n) (by omega)).below hb3
  clear yc0 yc1 yc2 zc0 zc1 zc2 zf0 ac0 ac1 ac2
  obtain ⟨ad0, ad1, ad2⟩ := ha1.cells3
  have zf1 := hz1.open_ 1
  have zf2 := hz1.open_ 2
  have yf0 := hy1.open_ 0
  have yf1 := hy1.open_ 1
  have yf2 := hy1.open_ 2
  have hs1 : (w1.setCell ⟨w.heap.size + 1 + 1, 0, none⟩ (.slice (some ⟨w.heap.size + 1 + 1 + 1, 0, none⟩) n n)).heap.size = w1.heap.size := by simp [World.setCell]
  rw [hs1, hz] at hs2 hv
  have hw2 : Whole w2 (w.heap.size + 1 + 1 + 1) 3 (nums xs).toArray := (hw'.off (by omega)).below hb3
  have hb4 : Below w.heap.size w w2 := below_then hb2 hb3 hb2.size
  have HV := Lib.hid hv
  have HS2 := Lib.hid hs2
  clear hv hs2 hb3
  go_wp2
  have hv := HV.out
  refine bodyPost_ret (v := .agg #[.slice (some ⟨w.heap.size + 1 + 1 + 1, 0, none⟩) n n, .slice (some ⟨w.heap.size + 4, 0, none⟩) m m, .int .i64 s]) (by simp [results, Try.results23, go_sem, yd0, yd1, yd2, zd0, zd1, zd2]) rfl ⟨_, _, rfl, by omega, ?_, by omega, ?_, ?_⟩
  · exact ((((hw2.off (by omega)).off (by omega)).off (by omega)).off (by omega)).off (by omega)
  · exact ((((hv.off (by omega)).off (by omega)).off (by omega)).off (by omega)).off (by omega)
  · exact below_set (below_set (below_set (below_set (below_set hb4 (by omega)) (by omega)) (by omega)) (by omega)) (by omega)

/-- Two crews of one reading are the same. -/
theorem eqCrew_yes (A B : Option Addr) (n c d : Nat) (xs : List Int) (A' B' : Option Addr) (m c' d' : Nat) (bs : List Bool) (s : Int) (w : World) (hA : Holds w A (nums xs)) (hB : Holds w B (nums xs)) (hA' : Holds w A' (bits bs)) (hB' : Holds w B' (bits bs)) (hx : xs.length = n) (hy : bs.length = m) (hn : n ≤ 9223372036854775807) (hm : m ≤ 9223372036854775807) :
    Calls Try.prog 27 #[.agg #[.slice A n c, .slice A' m c', .int .i64 s], .agg #[.slice B n d, .slice B' m d', .int .i64 s]] w fun e w' => e = .returned (.bool true) ∧ Below w.heap.size w w' := by
  have HX := Lib.hid hx
  have HY := Lib.hid hy
  have HI := Lib.hid (sameInts_yes (a := xs) (b := xs) rfl)
  have HB := Lib.hid (sameBits_yes (a := bs) (b := bs) rfl)
  clear hx hy
  have hss : (!(s == s)) = false := by simp
  have hb2 := below2 w (.cells #[.slice A n c, .slice A' m c', .int .i64 s] 40) (.cells #[.slice B n d, .slice B' m d', .int .i64 s] 40)
  go_enter Try.func27, Try.ntmps27
  go_wp2_with fail
  refine (eqIntS_any A B n n c d xs xs _ (by exact hA.below hb2) (by exact hB.below hb2) HX.out HX.out hn hn).mono ?_
  rintro e w1 ⟨rfl, k, rfl⟩
  rw [HI.out]
  go_wp2_with fail
  refine (eqBoolS_any A' B' m m c' d' bs bs _ (by exact hA'.below (below_draws hb2 k)) (by exact hB'.below (below_draws hb2 k)) HY.out HY.out hm hm).mono ?_
  rintro e w2 ⟨rfl, k2, rfl⟩
  rw [HB.out]
  go_wp2
  go_ret
  exact ⟨rfl, below_draws hb2 (k + k2)⟩

set_option maxHeartbeats 800000 in
theorem markCrew_any (A : Option Addr) (n c lo mid hi : Nat) (xs : List Value) (B : Option Addr) (m d : Nat) (bs : List Value) (s q : Int) (w : World) (hf : Fresh w lo mid 3 A xs) (hg : Fresh w mid hi 4 B bs) (hx : xs.length = n) (hy : bs.length = m) (h0 : 0 ≤ q) (h1 : q ≤ 2305843009213693952) (hn : n ≤ 1048576) (hm : m ≤ 1048576) (hlo : lo ≤ mid) (hhi : mid ≤ hi) (hz : hi ≤ w.heap.size) :
    Calls Try.prog 29 #[.agg #[.slice A n c, .slice B m d, .int .i64 s], .int .i64 q] w fun e w' => e = .returned (.int .i64 (q + n + m)) ∧ Span lo hi w w' ∧ (Fresh w' lo mid 3 A (nums (marksI q n)) ∧ Fresh w' mid hi 4 B (bits (marksB (q + n) m))) := by
  have HX := Lib.hid hx
  have HY := Lib.hid hy
  clear hx hy
  have hb1 := Whole.fresh w 40 #[.slice A n c, .slice B m d, .int .i64 s]
  go_enter Try.func29, Try.ntmps29
  go_wp2_with fail
  refine (markIntS_any A n c lo mid xs q _ (hf.alloc _) HX.out h0 (by omega) hn).mono ?_
  rintro e w1 ⟨rfl, hs, hf1⟩
  have hq1 : (0 : Int) ≤ q + n := by omega
  have hbl := (below1 w (.cells #[.slice A n c, .slice B m d, .int .i64 s] 40))
  have hs0 : Span lo hi w w1 := (Span.of_below hbl lo hi).trans ⟨hs.os, hs.tape, hs.output, hs.size, fun k hk h => hs.block k hk (by omega)⟩
  have hb2 := hs.whole hb1 (by omega)
  obtain ⟨c0, c1, c2⟩ := hb2.cells3
  have hg1 := hs.fresh (hg.alloc (.cells #[.slice A n c, .slice B m d, .int .i64 s] 40)) (by omega)
  go_wp2_with fail
  refine (markBoolS_any B m d mid hi bs (q + n) _ hg1 HY.out hq1 (by omega) hm).mono ?_
  rintro e w2 ⟨rfl, hs2, hf2⟩
  have hs3 : Span lo hi w w2 := hs0.trans ⟨hs2.os, hs2.tape, hs2.output, hs2.size, fun k hk h => hs2.block k hk (by omega)⟩
  have hf3 := hs2.fresh hf1 (by omega)
  have hq2 : (0 : Int) ≤ q + n + m := by omega
  go_wp2
  go_ret
  exact ⟨rfl, hs3, hf3, hf2⟩

/-- A row lies in one block, or nowhere. -/
theorem Fresh.tight {w : World} {lo hi : Nat} {ty : TypeId} {A : Option Addr} {xs : List Value} (hf : Fresh w lo hi ty A xs) (hh : lo ≤ hi) : ∃ l r, Fresh w l r ty A xs ∧ lo ≤ l ∧ r ≤ hi ∧ ((l = lo ∧ r = lo) ∨ (r = l + 1 ∧ ∃ cs, Whole w l ty cs)) := by
  rcases hf with rfl | ⟨g, cs, hA, h1, h2, hw, h3, h4⟩
  · exact ⟨lo, lo, .inl rfl, Nat.le_refl _, hh, .inl ⟨rfl, rfl⟩⟩
  · exact ⟨g, g + 1, .inr ⟨g, cs, hA, Nat.le_refl _, Nat.lt_succ_self _, hw, h3, h4⟩, h1, h2, .inr ⟨rfl, cs, hw⟩⟩
theorem whole_other {w : World} {g h : Nat} {t u : TypeId} {a b : Array Value} (h1 : Whole w g t a) (h2 : Whole w h u b) (hn : t ≠ u) : g ≠ h := by
  rintro rfl
  have e : some (Obj.cells a t (0, 0)) = some (Obj.cells b u (0, 0)) := h1.symm.trans h2
  simp at e
  exact hn e.2

set_option maxHeartbeats 800000 in
theorem markCrew_apart (A : Option Addr) (n c lo hi : Nat) (xs : List Value) (B : Option Addr) (m d : Nat) (bs : List Value) (s q : Int) (w : World) (hf : Fresh w lo hi 3 A xs) (hg : Fresh w lo hi 4 B bs) (hx : xs.length = n) (hy : bs.length = m) (h0 : 0 ≤ q) (h1 : q ≤ 2305843009213693952) (hn : n ≤ 1048576) (hm : m ≤ 1048576) (hh : lo ≤ hi) (hz : hi ≤ w.heap.size) :
    Calls Try.prog 29 #[.agg #[.slice A n c, .slice B m d, .int .i64 s], .int .i64 q] w fun e w' => e = .returned (.int .i64 (q + n + m)) ∧ Span lo hi w w' ∧ Fresh w' lo hi 3 A (nums (marksI q n)) ∧ Fresh w' lo hi 4 B (bits (marksB (q + n) m)) := by
  have HX := Lib.hid hx
  have HY := Lib.hid hy
  clear hx hy
  obtain ⟨l1, r1, hf1, ha1, hb1, hc1⟩ := hf.tight hh
  obtain ⟨l2, r2, hg1, ha2, hb2, hc2⟩ := hg.tight hh
  have hd : r1 ≤ l2 ∨ r2 ≤ l1 := by
    rcases hc1 with ⟨e1, e2⟩ | ⟨e1, cs1, hw1⟩
    · exact .inl (by omega)
    · rcases hc2 with ⟨e3, e4⟩ | ⟨e3, cs2, hw2⟩
      · exact .inr (by omega)
      · have := whole_other hw1 hw2 (by decide)
        omega
  have hbx := Whole.fresh w 40 #[.slice A n c, .slice B m d, .int .i64 s]
  clear hf hg hc1 hc2
  go_enter Try.func29, Try.ntmps29
  go_wp2_with fail
  refine (markIntS_any A n c l1 r1 xs q _ (hf1.alloc _) HX.out h0 (by omega) hn).mono ?_
  rintro e w1 ⟨rfl, hs, hf2⟩
  have hq1 : (0 : Int) ≤ q + n := by omega
  have hbl := (below1 w (.cells #[.slice A n c, .slice B m d, .int .i64 s] 40))
  have hs0 : Span lo hi w w1 := (Span.of_below hbl lo hi).trans ⟨hs.os, hs.tape, hs.output, hs.size, fun k hk h => hs.block k hk (by omega)⟩
  obtain ⟨c0, c1, c2⟩ := (hs.whole hbx (by omega)).cells3
  have hg2 := hs.fresh (hg1.alloc (.cells #[.slice A n c, .slice B m d, .int .i64 s] 40)) (by omega)
  go_wp2_with fail
  refine (markBoolS_any B m d l2 r2 bs (q + n) _ hg2 HY.out hq1 (by omega) hm).mono ?_
  rintro e w2 ⟨rfl, hs2, hg3⟩
  have hs3 : Span lo hi w w2 := hs0.trans ⟨hs2.os, hs2.tape, hs2.output, hs2.size, fun k hk h => hs2.block k hk (by omega)⟩
  have hf3 := hs2.fresh hf2 (by omega)
  have hq2 : (0 : Int) ≤ q + n + m := by omega
  go_wp2
  go_ret
  exact ⟨rfl, hs3, hf3.more ha1 hb1, hg3.more ha2 hb2⟩

end Go.Proofs.Ytkocompjjogciaa

namespace Go.Proofs.Ytkocompjjogciaa
open Go.RowKit

def CrewPlPost (ok : Bool) (sb : List Bool) (t : Bool) (w : World) (e : Ending) (w' : World) : Prop :=
  ((ok = true ∧ e = .returned (.tuple #[.agg (placeCells sb t), .bool true])) ∨ (ok = false ∧ e = .returned (.tuple #[.agg (placeCells [] false), .bool false]))) ∧ Below w.heap.size w w'
set_option maxHeartbeats 3200000 in
set_option maxRecDepth 100000 in
set_option linter.unusedVariables false in
theorem crewPlace_any (A : Option Addr) (n0 c0 : Nat) (B : Option Addr) (m d : Nat) (xs : List Int) (s : Int) (D : Option Addr) (q z : Nat) (sb : List Bool) (t : Bool) (w : World) (hA : Holds w A (nums xs)) (hD : Holds w D (bits sb)) (hx : xs.length = n0) (hqq : sb.length = q) (hn : n0 ≤ 9223372036854775807) (hq : q ≤ 9223372036854775807) :
    Calls Try.prog 81 #[.agg #[.slice A n0 c0, .slice B m d, .int .i64 s], .agg #[.slice D q z, .bool t]] w (CrewPlPost (crewState xs m s sb t) sb t w) := by
  have HX := Lib.hid hx
  have HQ := Lib.hid hqq
  have hc := ((Whole.fresh w 40 #[.slice A n0 c0, .slice B m d, .int .i64 s]).alloc (.cells #[.slice D q z, .bool t] 38)).alloc (.cells #[.bool false, .bool false, .bool false, .bool false, .bool false, .bool false, .bool false, .bool false, .bool false] 113)
  have hs := (Whole.fresh (w.alloc (.cells #[.slice A n0 c0, .slice B m d, .int .i64 s] 40)) 38 #[.slice D q z, .bool t]).alloc (.cells #[.bool false, .bool false, .bool false, .bool false, .bool false, .bool false, .bool false, .bool false, .bool false] 113)
  have hr := Whole.fresh ((w.alloc (.cells #[.slice A n0 c0, .slice B m d, .int .i64 s] 40)).alloc (.cells #[.slice D q z, .bool t] 38)) 113 #[.bool false, .bool false, .bool false, .bool false, .bool false, .bool false, .bool false, .bool false, .bool false]
  rw [World.size_alloc] at hs
  rw [World.size_alloc, World.size_alloc] at hr
  have ht := below3 w (.cells #[.slice A n0 c0, .slice B m d, .int .i64 s] 40) (.cells #[.slice D q z, .bool t] 38) (.cells #[.bool false, .bool false, .bool false, .bool false, .bool false, .bool false, .bool false, .bool false, .bool false] 113)
  cases hp : isCrew xs m s
  · have HO : Hid (crewState xs m s sb t = false) := by show _ = _; simp [crewState, hp]
    have HP := Lib.hid hp
    clear hp hx hqq
    go_enter Try.func81, Try.ntmps81
    go_wp2_with fail
    refine (isCrew_any A n0 c0 B m d xs s _ (by exact hA.below ht) HX.out hn).mono ?_
    rintro e w1 ⟨rfl, hb⟩
    rw [HP.out]
    replace ht := below_then ht hb ht.size
    replace hr := hr.below hb
    clear hb hc hs
    go_wp2_with (refine wpList_store_whole rfl 113 (.tmp 4) (.tmp 9) rfl (w.heap.size + 1 + 1) (placeCells [] false) rfl rfl 113 _ hr size_place rfl (place_one _ _) ?_; intro w2 hw2 ho2)
    obtain ⟨r0, r1, r2, r3, r4, r5, r6, r7, r8⟩ := place_cells hw2
    refine bodyPost_ret (v := .tuple #[.agg (placeCells [] false), .bool false]) (by simp [results, Try.results81, go_sem, r0, r1, r2, r3, r4, r5, r6, r7, r8, placeCells]) rfl ⟨.inr ⟨HO.out, rfl⟩, ho2.below ht (by omega)⟩
  have hok := isCrew_ok hp
  have h7 : n0 ≤ 8 := by have := hok.seven; omega
  have HP := Lib.hid hp
  cases hst : isState n0 sb t
  all_goals
    have HST := Lib.hid hst
    have HO : Hid (crewState xs m s sb t = isState n0 sb t) := by show _ = _; simp [crewState, hp, hx]
    clear hst
    go_enter Try.func81, Try.ntmps81
    go_wp2_with fail
    refine (isCrew_any A n0 c0 B m d xs s _ (by exact hA.below ht) HX.out hn).mono ?_
    rintro e w1 ⟨rfl, hb⟩
    rw [HP.out]
    replace ht := below_then ht hb ht.size
    replace hr := hr.below hb
    replace hs := hs.below hb
    replace hc := hc.below hb
    obtain ⟨c1, c2, c3⟩ := hc.cells3
    obtain ⟨d1, d2, -, -⟩ := hs.two
    clear hb
    go_wp2_with fail
  · refine (placeOf_no D n0 q z sb t w1 (by exact hD.below ht) HQ.out hq HST.out).mono ?_
    rintro e w2 ⟨rfl, hb⟩
    replace ht := below_then ht hb ht.size
    replace hr := hr.below hb
    clear hb c1 c2 c3 d1 d2 hc hs
    go_wp2_with (refine wpList_store_whole rfl 113 (.tmp 4) (.tmp 15) rfl (w.heap.size + 1 + 1) (placeCells [] false) rfl rfl 113 _ hr size_place rfl (place_one _ _) ?_; intro w3 hw2 ho2)
    obtain ⟨r0, r1, r2, r3, r4, r5, r6, r7, r8⟩ := place_cells hw2
    refine bodyPost_ret (v := .tuple #[.agg (placeCells [] false), .bool false]) (by simp [results, Try.results81, go_sem, r0, r1, r2, r3, r4, r5, r6, r7, r8, placeCells]) rfl ⟨.inr ⟨by rw [HO.out, HST.out], rfl⟩, ho2.below ht (by omega)⟩
  · refine (placeOf_yes D n0 q z sb t w1 (by exact hD.below ht) HQ.out h7 HST.out).mono ?_
    rintro e w2 ⟨rfl, hb⟩
    replace ht := below_then ht hb ht.size
    replace hr := hr.below hb
    clear hb c1 c2 c3 d1 d2 hc hs
    go_wp2_with (refine wpList_store_whole rfl 113 (.tmp 4) (.tmp 15) rfl (w.heap.size + 1 + 1) (placeCells sb t) rfl rfl 113 _ hr size_place rfl (place_one _ _) ?_; intro w3 hw2 ho2)
    obtain ⟨r0, r1, r2, r3, r4, r5, r6, r7, r8⟩ := place_cells hw2
    refine bodyPost_ret (v := .tuple #[.agg (placeCells sb t), .bool true]) (by simp [results, Try.results81, go_sem, r0, r1, r2, r3, r4, r5, r6, r7, r8, placeCells]) rfl ⟨.inl ⟨by rw [HO.out, HST.out], rfl⟩, ho2.below ht (by omega)⟩
end Go.Proofs.Ytkocompjjogciaa

namespace Go.Proofs.Ytkocompjjogciaa
open Go.RowKit

/-- Does a list come before another one? -/
def lexB : List Int → List Int → Bool
  | [], [] => false
  | [], _ :: _ => true
  | _ :: _, [] => false
  | a :: xs, b :: ys => if a = b then lexB xs ys else decide (a < b)
/-- Where a group goes among the first k of some. -/
def spotG (out : List Nat) (g : Nat) : Nat → Nat
  | 0 => 0
  | k + 1 => if lexB (listOf g) (listOf (out.getD k 0)) then spotG out g k else k + 1
def insG (out : List Nat) (g : Nat) : List Nat := out.take (spotG out g out.length) ++ [g] ++ out.drop (spotG out g out.length)
/-- The rows among the groups from g on, n of them, put into some. -/
def rowsM (k : Nat) (q : Int) (x : Nat) : Nat → Nat → List Nat → List Nat
  | 0, _, out => out
  | n + 1, g, out => rowsM k q x n (g + 1) (if canM k q x g then insG out g else out)
def rowsSame (k q x : Nat) : Bool := (rowsM k q x (2 ^ (2 * k) - 1) 1 []).map listOf == rowsIn k q (bitsOf (x / 2) (2 * k)) (bitAt x 0)
theorem rows_same1 : (List.range 4).all (fun q => (List.range 8).all fun x => !quiet 1 (bitAt (x / 2)) || rowsSame 1 (q + 1) x) = true := by decide +kernel
theorem rows_same2 : (List.range 4).all (fun q => (List.range 32).all fun x => !quiet 2 (bitAt (x / 2)) || rowsSame 2 (q + 1) x) = true := by decide +kernel
theorem rows_same3 : (List.range 4).all (fun q => (List.range 128).all fun x => !quiet 3 (bitAt (x / 2)) || rowsSame 3 (q + 1) x) = true := by decide +kernel
theorem rows_same4 : (List.range 4).all (fun q => (List.range 512).all fun x => !quiet 4 (bitAt (x / 2)) || rowsSame 4 (q + 1) x) = true := by decide +kernel
end Go.Proofs.Ytkocompjjogciaa

namespace Go.Proofs.Ytkocompjjogciaa
open Go.RowKit

theorem lexB_same {a b : List Int} {k : Nat} (ha : k < a.length) (hb : k < b.length) (he : a[k] = b[k]) : lexB (a.drop k) (b.drop k) = lexB (a.drop (k + 1)) (b.drop (k + 1)) := by
  rw [List.drop_eq_getElem_cons ha, List.drop_eq_getElem_cons hb, lexB, if_pos he]
theorem lexB_part {a b : List Int} {k : Nat} (ha : k < a.length) (hb : k < b.length) (he : a[k] ≠ b[k]) : lexB (a.drop k) (b.drop k) = decide (a[k] < b[k]) := by
  rw [List.drop_eq_getElem_cons ha, List.drop_eq_getElem_cons hb, lexB, if_neg he]
theorem lexB_end {a b : List Int} {k : Nat} (ha : k ≤ a.length) (hb : k ≤ b.length) (h : ¬ (k < a.length ∧ k < b.length)) : lexB (a.drop k) (b.drop k) = decide (a.length < b.length) := by
  by_cases h1 : k < a.length
  · have h2 : b.length ≤ k := by omega
    rw [List.drop_eq_getElem_cons h1, List.drop_of_length_le h2, lexB]
    simp; omega
  · have h2 : a.length ≤ k := by omega
    rw [List.drop_of_length_le h2]
    by_cases h3 : k < b.length
    · rw [List.drop_eq_getElem_cons h3, lexB]
      simp; omega
    · rw [List.drop_of_length_le (by omega), lexB]
      simp; omega

def ofN (l : List Nat) : List Int := l.map Int.ofNat
theorem ofN_len (l : List Nat) : (ofN l).length = l.length := by simp [ofN]
theorem rowsM_next (k : Nat) (q : Int) (x n g : Nat) (out : List Nat) : rowsM k q x (n + 1) g out = rowsM k q x n (g + 1) (if canM k q x g then insG out g else out) := rfl
theorem spotG_le (out : List Nat) (g : Nat) : ∀ k, spotG out g k ≤ k
  | 0 => Nat.le_refl _
  | k + 1 => by
    rw [spotG]
    split
    · have := spotG_le out g k; omega
    · omega
theorem insG_len (out : List Nat) (g : Nat) : (insG out g).length = out.length + 1 := by
  have := spotG_le out g out.length
  simp [insG]
  omega
theorem insG_mem {out : List Nat} {g b : Nat} (h : ∀ y ∈ out, y < b) (hg : g < b) : ∀ y ∈ insG out g, y < b := by
  intro y hy
  simp only [insG, List.mem_append, List.mem_singleton] at hy
  rcases hy with (hy | rfl) | hy
  · exact h y (List.mem_of_mem_take hy)
  · exact hg
  · exact h y (List.mem_of_mem_drop hy)

theorem listOf_le (g : Nat) : (listOf g).length ≤ 8 := by
  unfold listOf listTo
  rw [List.length_map]
  exact Nat.le_trans (List.length_filter_le _ _) (by simp)
theorem whole_grownR {w w' : World} {g : Nat} {ty : TypeId} {cs : Array Value} {row : Option Nat} (h : Whole w g ty cs) (hg : w.grownBy w' row) (hne : ¬ row = some g) : Whole w' g ty cs := (hg.block g h.lt (fun e => hne e.symm)).trans h

end Go.Proofs.Ytkocompjjogciaa

namespace Go.Proofs.Ytkocompjjogciaa

/-- Least times from a place: the place itself needs 0, no trip leads on sooner, and each other place that is reached has one before it. -/
structure Least {α : Type} (E : α → Int → α → Prop) (src : α) (d : α → Option Int) : Prop where
  start : d src = some 0
  edge : ∀ x t y a, d x = some a → E x t y → ∃ b, d y = some b ∧ b ≤ a + t
  pred : ∀ y b, d y = some b → (y = src ∧ b = 0) ∨ ∃ x t a, d x = some a ∧ E x t y ∧ b = a + t
  low : ∀ y b, d y = some b → 0 ≤ b

theorem least_le {α : Type} {E : α → Int → α → Prop} {src : α} {d1 d2 : α → Option Int} (hE : ∀ x t y, E x t y → 1 ≤ t) (h1 : Least E src d1) (h2 : Least E src d2) :
    ∀ (n : Nat) (y : α) (b : Int), b ≤ n → d1 y = some b → ∃ c, d2 y = some c ∧ c ≤ b := by
  intro n
  induction n with
  | zero =>
    intro y b hb hy
    rcases h1.pred y b hy with ⟨rfl, rfl⟩ | ⟨x, t, a, hx, he, rfl⟩
    · exact ⟨0, h2.start, Int.le_refl _⟩
    · have := h1.low x a hx
      have := hE _ _ _ he
      omega
  | succ n ih =>
    intro y b hb hy
    rcases h1.pred y b hy with ⟨rfl, rfl⟩ | ⟨x, t, a, hx, he, rfl⟩
    · exact ⟨0, h2.start, Int.le_refl _⟩
    · have := hE _ _ _ he
      obtain ⟨a', ha', hle⟩ := ih x a (by omega) hx
      obtain ⟨c, hc, hle2⟩ := h2.edge x t y a' ha' he
      exact ⟨c, hc, by omega⟩
theorem least_one {α : Type} {E : α → Int → α → Prop} {src : α} {d1 d2 : α → Option Int} (hE : ∀ x t y, E x t y → 1 ≤ t) (h1 : Least E src d1) (h2 : Least E src d2) : d1 = d2 := by
  funext y
  cases e1 : d1 y with
  | some b =>
    obtain ⟨c, hc, hle⟩ := least_le hE h1 h2 b.toNat y b (by omega) e1
    obtain ⟨b', hb', hle'⟩ := least_le hE h2 h1 c.toNat y c (by omega) hc
    rw [e1] at hb'
    obtain rfl : b = b' := by simpa using hb'
    rw [hc, show c = b by omega]
  | none =>
    cases e2 : d2 y with
    | none => rfl
    | some c =>
      obtain ⟨b, hb, -⟩ := least_le hE h2 h1 c.toNat y c (by omega) e2
      rw [e1] at hb
      cases hb
/-- Where each trip leads back in the same time: from one place to another it takes as long as back. -/
theorem least_via {α : Type} {E : α → Int → α → Prop} {s e : α} {ds de : α → Option Int} (hE : ∀ x t y, E x t y → 1 ≤ t) (hback : ∀ x t y, E x t y → E y t x) (hs : Least E s ds) (he : Least E e de) :
    ∀ (n : Nat) (y : α) (a b : Int), b ≤ n → ds y = some b → de y = some a → ∃ c, de s = some c ∧ c ≤ a + b := by
  intro n
  induction n with
  | zero =>
    intro y a b hb hy hya
    rcases hs.pred y b hy with ⟨rfl, rfl⟩ | ⟨x, t, a', hx, hed, rfl⟩
    · exact ⟨a, hya, by omega⟩
    · have := hs.low x a' hx
      have := hE _ _ _ hed
      omega
  | succ n ih =>
    intro y a b hb hy hya
    rcases hs.pred y b hy with ⟨rfl, rfl⟩ | ⟨x, t, a', hx, hed, rfl⟩
    · exact ⟨a, hya, by omega⟩
    · have := hE _ _ _ hed
      obtain ⟨c', hc', hle⟩ := he.edge y t x a hya (hback _ _ _ hed)
      obtain ⟨c, hc, hle2⟩ := ih x c' a' (by omega) hx hc'
      exact ⟨c, hc, by omega⟩
theorem least_turn {α : Type} {E : α → Int → α → Prop} {s e : α} {ds de : α → Option Int} (hE : ∀ x t y, E x t y → 1 ≤ t) (hback : ∀ x t y, E x t y → E y t x) (hs : Least E s ds) (he : Least E e de) : ds e = de s := by
  cases e1 : ds e with
  | some b =>
    obtain ⟨c, hc, hle⟩ := least_via hE hback hs he b.toNat e 0 b (by omega) e1 he.start
    obtain ⟨b', hb', hle'⟩ := least_via hE hback he hs c.toNat s 0 c (by omega) hc hs.start
    rw [e1] at hb'
    obtain rfl : b = b' := by simpa using hb'
    rw [hc, show c = b by omega]
  | none =>
    cases e2 : de s with
    | none => rfl
    | some c =>
      obtain ⟨b, hb, -⟩ := least_via hE hback he hs c.toNat s 0 c (by omega) e2 hs.start
      rw [e1] at hb
      cases hb

/-- A search under way: R holds what is settled, each trip from there told of; W what waits. -/
structure Seek {α : Type} (E : α → Int → α → Prop) (src : α) (R W : α → Option Int) : Prop where
  start : R src = some 0 ∨ (W src = some 0 ∧ ∀ x, R x = none)
  edge : ∀ x t y a, R x = some a → E x t y → ∃ b, (R y = some b ∨ W y = some b) ∧ b ≤ a + t
  pred : ∀ y b, R y = some b ∨ W y = some b → (y = src ∧ b = 0) ∨ ∃ x t a, R x = some a ∧ E x t y ∧ b = a + t
  low : ∀ y b, R y = some b ∨ W y = some b → 0 ≤ b
  far : ∀ x a y b, R x = some a → W y = some b → a ≤ b
  apart : ∀ x a, R x = some a → W x = none

/-- Before the first round. -/
theorem seek_start {α : Type} [DecidableEq α] (E : α → Int → α → Prop) (src : α) : Seek E src (fun _ => none) (fun x => if x = src then some 0 else none) where
  start := .inr ⟨by simp, fun _ => rfl⟩
  edge := fun _ _ _ _ h => by cases h
  pred := fun y b h => by
    rcases h with h | h
    · cases h
    · by_cases e : y = src
      · simp [e] at h
        exact .inl ⟨e, h.symm⟩
      · simp [e] at h
  low := fun y b h => by
    rcases h with h | h
    · cases h
    · by_cases e : y = src
      · simp [e] at h
        omega
      · simp [e] at h
  far := fun _ _ _ _ h => by cases h
  apart := fun _ _ h => by cases h
/-- When nothing waits any more, the least times are found. -/
theorem seek_end {α : Type} {E : α → Int → α → Prop} {src : α} {R W : α → Option Int} (h : Seek E src R W) (h0 : ∀ x, W x = none) : Least E src R where
  start := by
    rcases h.start with h1 | ⟨h1, -⟩
    · exact h1
    · rw [h0] at h1
      cases h1
  edge := fun x t y a hx he => by
    obtain ⟨b, hb | hb, hle⟩ := h.edge x t y a hx he
    · exact ⟨b, hb, hle⟩
    · rw [h0] at hb
      cases hb
  pred := fun y b hy => h.pred y b (.inl hy)
  low := fun y b hy => h.low y b (.inl hy)

/-- What waits behind a round that settles S at the time m: for each place that is not settled the least of what it waited for and of the trips from S. -/
structure SeekRound {α : Type} (E : α → Int → α → Prop) (R W : α → Option Int) (S : α → Prop) (m : Int) (R' W' : α → Option Int) : Prop where
  least : ∀ y b, W y = some b → m ≤ b
  took : ∀ x, S x → W x = some m
  some_ : ∃ x, S x
  settled : ∀ x, S x → R' x = some m
  kept : ∀ x, ¬ S x → R' x = R x
  gone : ∀ x a, R' x = some a → W' x = none
  relaxed : ∀ x t y, S x → E x t y → R' y = none → ∃ b, W' y = some b ∧ b ≤ m + t
  still : ∀ y b, W y = some b → R' y = none → ∃ c, W' y = some c ∧ c ≤ b
  from_ : ∀ y b, W' y = some b → (W y = some b ∧ R' y = none) ∨ ∃ x t, S x ∧ E x t y ∧ b = m + t
theorem seek_round {α : Type} {E : α → Int → α → Prop} {src : α} {R W R' W' : α → Option Int} {S : α → Prop} {m : Int} (hE : ∀ x t y, E x t y → 1 ≤ t) (h : Seek E src R W) (hr : SeekRound E R W S m R' W') : Seek E src R' W' := by
  have hup : ∀ x a, R x = some a → R' x = some a := fun x a hx => by
    have hn : ¬ S x := fun hs => by
      have h1 := hr.took x hs
      rw [h.apart x a hx] at h1
      cases h1
    rw [hr.kept x hn]
    exact hx
  have hback : ∀ x a, R' x = some a → (S x ∧ a = m) ∨ (¬ S x ∧ R x = some a) := fun x a hx => by
    by_cases hs : S x
    · have h1 := hr.settled x hs
      rw [hx] at h1
      exact .inl ⟨hs, by simpa using h1⟩
    · exact .inr ⟨hs, by rw [← hr.kept x hs]; exact hx⟩
  obtain ⟨x0, hx0⟩ := hr.some_
  have hw0 := hr.took x0 hx0
  have hm : ∀ x a, R' x = some a → a ≤ m := fun x a hx => by
    rcases hback x a hx with ⟨-, rfl⟩ | ⟨-, hx'⟩
    · exact Int.le_refl _
    · exact h.far x a x0 m hx' hw0
  have hm0 : 0 ≤ m := h.low x0 m (.inr hw0)
  have hlow : ∀ x a, R' x = some a → 0 ≤ a := fun x a hx => by
    rcases hback x a hx with ⟨-, rfl⟩ | ⟨-, hx'⟩
    · exact hm0
    · exact h.low x a (.inl hx')
  refine ⟨?_, fun x t y a hx he => ?_, fun y b hy => ?_, fun y b hy => ?_, fun x a y b hx hy => ?_, hr.gone⟩
  · rcases h.start with h1 | ⟨h1, h2⟩
    · exact .inl (hup _ _ h1)
    · left
      by_cases hs : S src
      · have h3 := hr.took src hs
        rw [h1] at h3
        obtain rfl : (0 : Int) = m := by simpa using h3
        exact hr.settled src hs
      · exfalso
        rcases h.pred x0 m (.inr hw0) with ⟨rfl, -⟩ | ⟨x, t, a, hx, -, -⟩
        · exact hs hx0
        · rw [h2] at hx
          cases hx
  · have ht := hE _ _ _ he
    rcases hback x a hx with ⟨hs, rfl⟩ | ⟨hs, hx'⟩
    · cases hy : R' y with
      | some b => exact ⟨b, .inl rfl, by have := hm y b hy; omega⟩
      | none =>
        obtain ⟨b, hb, hle⟩ := hr.relaxed x t y hs he hy
        exact ⟨b, .inr hb, hle⟩
    · obtain ⟨b, hb, hle⟩ := h.edge x t y a hx' he
      rcases hb with hb | hb
      · exact ⟨b, .inl (hup _ _ hb), hle⟩
      · cases hy : R' y with
        | some c =>
          rcases hback y c hy with ⟨hs', rfl⟩ | ⟨-, hy'⟩
          · have := hr.least y b hb
            exact ⟨_, .inl rfl, by omega⟩
          · rw [h.apart y c hy'] at hb
            cases hb
        | none =>
          obtain ⟨c, hc, hle'⟩ := hr.still y b hb hy
          exact ⟨c, .inr hc, by omega⟩
  · rcases hy with hy | hy
    · rcases hback y b hy with ⟨hs, rfl⟩ | ⟨-, hy'⟩
      · rcases h.pred y b (.inr (hr.took y hs)) with h1 | ⟨x, t, a, hx, he, h3⟩
        · exact .inl h1
        · exact .inr ⟨x, t, a, hup _ _ hx, he, h3⟩
      · rcases h.pred y b (.inl hy') with h1 | ⟨x, t, a, hx, he, h3⟩
        · exact .inl h1
        · exact .inr ⟨x, t, a, hup _ _ hx, he, h3⟩
    · rcases hr.from_ y b hy with ⟨hy', -⟩ | ⟨x, t, hs, he, rfl⟩
      · rcases h.pred y b (.inr hy') with h1 | ⟨x, t, a, hx, he, h3⟩
        · exact .inl h1
        · exact .inr ⟨x, t, a, hup _ _ hx, he, h3⟩
      · exact .inr ⟨x, t, m, hr.settled x hs, he, rfl⟩
  · rcases hy with hy | hy
    · exact hlow y b hy
    · rcases hr.from_ y b hy with ⟨hy', -⟩ | ⟨x, t, hs, he, rfl⟩
      · exact h.low y b (.inr hy')
      · have := hE _ _ _ he
        omega
  · have h1 := hm x a hx
    rcases hr.from_ y b hy with ⟨hy', -⟩ | ⟨x', t, hs, he, rfl⟩
    · have := hr.least y b hy'
      omega
    · have := hE _ _ _ he
      omega
end Go.Proofs.Ytkocompjjogciaa

namespace Go.Proofs.Ytkocompjjogciaa
open Go.RowKit

/-- What one begins with, unless it is nobody. -/
def headOf (bs : List Int) : List (List Int) := if bs.length = 0 then [] else [bs]
def groups (m : Nat) (os bs : List Int) : List (List Int) := headOf bs ++ subs m os bs
/-- A list of lists under way. -/
def Under (G : List (List Int)) (m j lo : Nat) (os bs : List Int) (w : World) (v : Value) (wx : World) : Prop :=
  ∃ (E : Option Addr) (d : Nat) (acc : List RowV), v = .slice E acc.length d ∧ rowNums acc ++ subs m (os.drop j) bs = G ∧ (E = none → acc = [] ∧ d = 0) ∧ (∀ a, E = some a → a = ⟨a.block, 0, none⟩ ∧ 0 < acc.length) ∧ Heads wx lo E d acc ∧ Below lo w wx
theorem groups_next {m : Nat} {b o : List Int} {i : Nat} (hi : i < o.length) (h : b.length < m) : subs m (o.drop i) b = groups m (o.drop (i + 1)) (b ++ [o[i]]) ++ subs m (o.drop (i + 1)) b := by
  rw [subs_next hi h, groups, headOf, if_neg (by simp)]
  rfl

theorem holds_as {w : World} {A : Option Addr} {xs ys : List Value} (h : Holds w A xs) (e : xs = ys) : Holds w A ys := e ▸ h
theorem one_kept {w w' : World} {v : Value} {t : TypeId} (hb : Below (w.alloc (.cells #[v] t)).heap.size (w.alloc (.cells #[v] t)) w') : ∀ j u, [v][j]? = some u → w'.cell? ((⟨w.heap.size, 0, none⟩ : Addr).add j) = some u := fun j u hu => by
  rw [Addr.add_lit]
  refine (hb.cell (p := ⟨w.heap.size, 0 + j, none⟩) (by simp)).trans ?_
  have := cell_one_new w v t j u hu
  rwa [Addr.add_lit] at this
theorem subs_some {A : Option Addr} {c : Nat} {rs : List RowV} {G : List (List Int)} (hn : A = none → rs = [] ∧ c = 0) (hs : ∀ a, A = some a → a = ⟨a.block, 0, none⟩ ∧ 0 < rs.length) (hr : rowNums rs = G) (hp : 0 < G.length) : ∃ b, A = some ⟨b, 0, none⟩ ∧ 0 < rs.length := by
  cases A with
  | none =>
    obtain ⟨rfl, -⟩ := hn rfl
    rw [← hr] at hp
    simp [rowNums] at hp
  | some a =>
    obtain ⟨h1, h2⟩ := hs a rfl
    exact ⟨a.block, by rw [← h1], h2⟩
theorem rows_le {n b : Nat} {rs : List RowV} {G : List (List Int)} (h : n + G.length ≤ b) (hr : rowNums rs = G) : n + rs.length ≤ b := by
  rw [← hr, rowNums_len] at h
  exact h
theorem rows_len1 (rs : List RowV) : (rowVals rs).length = rs.length * 1 := by rw [rowVals_len, Nat.mul_one]
theorem heads_news {w : World} {lo b c : Nat} {rs : List RowV} (h : Heads w lo (some ⟨b, 0, none⟩) c rs) : ∀ j u, (rowVals rs)[j]? = some u → w.cell? ((⟨b, 0, none⟩ : Addr).add j) = some u := fun j u hu => by
  rw [Addr.add_lit]
  rcases holds_of_own h.1 with h | ⟨b', o, h, -, hcell⟩
  · rw [h] at hu; simp at hu
  · obtain ⟨rfl, rfl⟩ : b = b' ∧ 0 = o := by simpa using h
    exact hcell j u hu

set_option maxHeartbeats 6400000 in
set_option maxRecDepth 100000 in
theorem paGroups_any (m : Nat) (hm : m ≤ 8) : ∀ (g : Nat) (A B : Option Addr) (k z n c f : Nat) (bs os : List Int) (w : World), n - f < g → n ≤ 8 → f ≤ n → Holds w A (nums bs) → Holds w B (nums os) → bs.length = k → os.length = n → k ≤ m → (A = none → k = 0 ∧ z = 0) →
    Calls Try.prog 143 #[.slice B n c, .slice A k z, .int .i64 f, .int .i64 m] w (SubsPost (groups m (os.drop f) bs) w) := by
  intro g
  induction g with
  | zero => intro A B k z n c f bs os w hg; omega
  | succ g ih =>
    intro A B k z n c f bs os w hg hn8 hfn hA hB hk hn hkm hnil
    obtain ⟨i0, hi, hz0, hz1, hz2⟩ := info_parts info_int
    have HI := Lib.hid hi
    have HZ0 := Lib.hid hz0
    have HZ1 := Lib.hid hz1
    have HZ2 := Lib.hid hz2
    obtain ⟨i1, ri, rz0, rz1, rz2⟩ := info_parts info_row
    have RI := Lib.hid ri
    have RZ0 := Lib.hid rz0
    have RZ1 := Lib.hid rz1
    have RZ2 := Lib.hid rz2
    have HK := Lib.hid hk
    have HN := Lib.hid hn
    have HNIL := Lib.hid hnil
    have HIH := Lib.hid ih
    have hk8 : k ≤ 8 := by omega
    generalize hG : groups m (os.drop f) bs = G
    have HG := Lib.hid hG
    clear hi hz0 hz1 hz2 ri rz0 rz1 rz2 hk hn hnil ih hG
    go_enter Try.func143, Try.ntmps143
    go_upto_if 13 with fail
    go_cut [9] from 13 to 18 (fun s9 wx => Under G m f w.heap.size os bs w s9 wx)
    case first =>
      by_cases hk0 : k = 0
      · have hd : decide (0 < k) = false := by simp [hk0]
        have hd' : ¬ 0 < k := by omega
        have HB0 : Hid (bs = []) := List.length_eq_zero_iff.1 (by have := HK.out; omega)
        clear hk0
        go_wp2_with fail
        go_meet
        refine ⟨none, 0, [], rfl, ?_, fun _ => ⟨rfl, rfl⟩, fun a h => (by cases h), Heads.nil _ _, Below.refl _ _⟩
        rw [← HG.out, groups, headOf, HB0.out]
        rfl
      · have hd : decide (0 < k) = true := by simp; omega
        have hd' : 0 < k := by omega
        have HB0 : Hid (bs.length ≠ 0) := by show _ ≠ _; have := HK.out; omega
        clear hk0
        go_wp2_with fail
        refine (l1Own_any A k z bs _ hA HK.out (by omega) (fun h => (HNIL.out h).2)).mono ?_
        rintro e w1 ⟨A1, c1, rfl, hown1, hb1⟩
        rw [HK.out] at hown1 ⊢
        have hs1 : w.heap.size ≤ w1.heap.size := hb1.size
        have HO1 := Lib.hid hown1
        have HB1 := Lib.hid hb1
        have HZ := Lib.hid (show w.heap.size ≤ (w1.alloc (.cells #[.slice A1 k c1] 22)).heap.size by simp; omega)
        clear hown1 hb1
        go_wp2_with (at_builtin; refine wpList_append_lies _ rfl (.tmp 14) (.tmp 17) 28 rfl w.heap.size 22 i1 (.slice none 0 0) 1 24 Try.underlying28 RI.out RZ0.out RZ1.out RZ2.out rfl (by decide) (.slice none 0 0) 0 [] rfl (World.ownsRow_nil _ _ _ _) ⟨w1.heap.size, 0, none⟩ 1 1 [.slice A1 k c1] rfl rfl (cell_one_new _ _ _) (by simp [Value.oneCell']) (by decide) (by decide) (by decide) HZ.out (w1.heap.size + 1) (by simp) ?_; intro g3 c3 w3 hown3 hg3 hat3 hlt3)
        have hF := own_fresh0' HO1.out
        have hH3 := Heads.push (r := ⟨A1, k, c1, bs⟩) (Heads.nil w w.heap.size) (Nat.le_refl _) HB1.out hF HK.out (by show k ≤ _; omega) hown3 hg3 hat3
        have hb3 : Below w.heap.size w w3 := (HB1.out.alloc hs1 (.cells #[.slice A1 k c1] 22)).grown hg3 HZ.out (fun kk e => by simp [Value.ownBlock] at e)
        go_meet
        refine ⟨some ⟨g3, 0, none⟩, c3, [⟨A1, k, c1, bs⟩], rfl, ?_, fun h => (by cases h), fun a h => by obtain rfl := Option.some.inj h; exact ⟨rfl, by simp⟩, hH3, hb3⟩
        rw [← HG.out, groups, headOf, if_neg HB0.out]
        rfl
    case rest =>
      obtain ⟨E0, d0, acc0, rfl, hac0, hn0, hs0, hh0, hb0⟩ := hcut
      have HAC0 := Lib.hid hac0
      have HN0 := Lib.hid hn0
      have HS0 := Lib.hid hs0
      have HH0 := Lib.hid hh0
      have HB0 := Lib.hid hb0
      clear hac0 hn0 hs0 hh0 hb0
      by_cases hkm2 : k = m
      · subst hkm2
        have HR : Hid (rowNums acc0 = G) := by show _ = _; rw [← HAC0.out, subs_full (by have := HK.out; omega)]; simp
        go_wp2
        go_ret
        exact ⟨E0, d0, acc0, rfl, HR.out, HN0.out, HS0.out, HH0.out, HB0.out⟩
      · have hd1 : decide (k = m) = false := by simp [hkm2]
        have hne : ((k : Int) == (m : Int)) = false := by simp; omega
        have hkb : bs.length < m := by have := HK.out; omega
        have HKB := Lib.hid hkb
        have HKM := Lib.hid (show k + 1 ≤ m by omega)
        clear hkm2 hkb
        go_wp2_with fail
        go_loopw [9, 10] (fun v i wr => ∃ j : Nat, f ≤ j ∧ j ≤ n ∧ i = .int .i64 j ∧ Under G m j w.heap.size os bs w v wr) (fun _ i _ => n - (intOf i).toNat)
        case atStart => exact ⟨f, Nat.le_refl _, hfn, rfl, ⟨E0, d0, acc0, rfl, HAC0.out, HN0.out, HS0.out, HH0.out, HB0.out⟩⟩
        case round =>
          obtain ⟨j, hfj, hj, rfl, E, d, acc, rfl, hac, hEn, hEs, hh, hb⟩ := hrel
          clear HAC0 HN0 HS0 HH0 HB0
          by_cases hjn : j < n
          · have hjl : j < os.length := by have := HN.out; omega
            obtain ⟨b0, o0, rfl, hbl0, hcell0⟩ := hB.look (k := j) (by rw [nums_len]; exact hjl)
            simp only [nums, List.getElem_map] at hcell0
            have HNX : Hid (rowNums acc ++ groups m (os.drop (j + 1)) (bs ++ [os[j]]) ++ subs m (os.drop (j + 1)) bs = G) := by show _ = _; rw [List.append_assoc, ← groups_next hjl HKB.out]; exact hac
            have HAL : Hid (acc.length + (groups m (os.drop (j + 1)) (bs ++ [os[j]])).length ≤ 256) := by
              have h1 := congrArg List.length HNX.out
              have h2 := congrArg List.length HG.out
              have h3 := subs_small (m := m) (o := os.drop f) (b := bs) (by have := HN.out; simp; omega)
              have h4 : (headOf bs).length ≤ 1 := by unfold headOf; split <;> simp
              simp only [List.length_append, rowNums_len, groups] at h1 h2
              show _ ≤ _
              simp only [List.length_append, groups]
              omega
            have HPOS : Hid (0 < (groups m (os.drop (j + 1)) (bs ++ [os[j]])).length) := by show _ < _; simp [groups, headOf]
            have HH := Lib.hid hh
            have HB := Lib.hid hb
            have hbs : w.heap.size ≤ wr.heap.size := hb.size
            have hA1 := hA.below hb
            have hcell : wr.cell? ⟨b0, o0 + j, none⟩ = some (.int .i64 os[j]) := (hb.cell (p := ⟨b0, o0 + j, none⟩) hbl0).trans hcell0
            have HBL0 := Lib.hid hbl0
            have HBW := Lib.hid hB
            have hdl : (os.drop (j + 1)).length = n - (j + 1) := by have := HN.out; simp; omega
            generalize hx : os[j] = x at hcell hcell0 HNX HAL HPOS
            have hFl : (bs ++ [x]).length = k + 1 := by have := HK.out; simp; omega
            have HFL := Lib.hid hFl
            have HDL := Lib.hid hdl
            have HM1 := Lib.hid (show k + 1 ≤ maxLen by unfold maxLen; omega)
            have HY1 := Lib.hid (show (k + 1) * 8 ≤ 140737488355328 by omega)
            have hwj : IntKind.i64.wrap ((j : Int) + 1) = (j : Int) + 1 := IntWalk.i64_in _ (by omega)
            have hcast : ((j : Int) + 1) = ((j + 1 : Nat) : Int) := by omega
            have HCAST := Lib.hid hcast
            have hnx : nums bs ++ [Value.int .i64 x] = nums (bs ++ [x]) := by simp [nums]
            have HNM := Lib.hid hnx
            have hcellw := hcell0
            clear hac hEn hEs hh hb hx hdl hFl hcast hnx hcell0 hbl0
            go_upto_block 1 with fail
            go_cut [9] from 31 to 45 (fun s9 wx => Under G m (j + 1) w.heap.size os bs w s9 wx)
            case first =>
              go_wp2_with fail
              go_region_held3 (fun w' => w'.cell? ⟨b0, o0 + j, none⟩ = some (.int .i64 x)) (go_keep)
                (first | (go_at_call 173; refine (l1Own_any A k z bs _ (by with_reducible exact hA1.drew) HK.out (by omega) (fun h => (HNIL.out h).2)).mono ?_; rintro e w1 ⟨A1, c1, rfl, hown1, hb1⟩; rw [HK.out] at hown1 ⊢; have hc1 : Below wr.heap.size wr w1 := (by first | exact below_then (Below.refl wr.heap.size wr).drew hb1 (Nat.le_refl _)); have hs1 : wr.heap.size ≤ w1.heap.size := hc1.size; have hcx := (hc1.cell (p := ⟨b0, o0 + j, none⟩) (Nat.lt_of_lt_of_le HBL0.out hbs)).trans hcell; have HO1 := Lib.hid (hown1.alloc (.cells #[.int .i64 x] 3)); have HCB1 := Lib.hid (hc1.alloc hs1 (.cells #[.int .i64 x] 3)); have HZ1' := Lib.hid (show wr.heap.size ≤ (w1.alloc (.cells #[.int .i64 x] 3)).heap.size from (by simp; omega)); clear hown1 hb1 hc1) | (go_at_call 173; refine (l1Own_any A k z bs _ (by with_reducible exact (hA1.alloc _).drew) HK.out (by omega) (fun h => (HNIL.out h).2)).mono ?_; rintro e w1 ⟨A1, c1, rfl, hown1, hb1⟩; rw [HK.out] at hown1 ⊢; have hb1' : Below (wr.alloc (.cells #[.int .i64 x] 3)).heap.size (wr.alloc (.cells #[.int .i64 x] 3)) w1 := below_then (Below.refl _ _).drew hb1 (Nat.le_refl _); have hc1 : Below wr.heap.size wr w1 := below_then ((Below.refl wr.heap.size wr).alloc (Nat.le_refl _) (.cells #[.int .i64 x] 3)) hb1' (by simp); have hs1 : wr.heap.size ≤ w1.heap.size := hc1.size; have hcx := (hc1.cell (p := ⟨b0, o0 + j, none⟩) (Nat.lt_of_lt_of_le HBL0.out hbs)).trans hcell; have HOB := Lib.hid (own_lower (base' := wr.heap.size) hown1 (show wr.heap.size ≤ (wr.alloc (.cells #[.int .i64 x] 3)).heap.size from (by simp))); have HCB := Lib.hid hc1; have HNB := Lib.hid (one_kept hb1'); clear hb1'; clear hown1 hb1 hc1) | (refine step_append_lies _ rfl (.tmp 34) (.tmp 39) 22 rfl wr.heap.size 3 i0 (.int .i64 0) 1 8 Try.underlying22 HI.out HZ0.out HZ1.out HZ2.out rfl (by decide) (.slice A1 k c1) k (nums bs) (by simp [Act.eval]) HO1.out ⟨w1.heap.size, 0, none⟩ 1 1 [.int .i64 x] (by simp [Act.eval]) rfl (cell_one_new _ _ _) (by simp [Value.oneCell']) (by decide) HM1.out HY1.out HZ1'.out (w1.heap.size + 1) (by simp) ?_; intro g2 c2 w2 hown2 hg2 hat2 hlt2; have hc2 : Below wr.heap.size wr w2 := HCB1.out.grown hg2 HZ1'.out (fun kk e => (HO1.out.lt kk e).1); have hs2 : wr.heap.size ≤ w2.heap.size := hc2.size; have hcx2 := (hc2.cell (p := ⟨b0, o0 + j, none⟩) (Nat.lt_of_lt_of_le HBL0.out hbs)).trans hcell; have HL2 : Hid (Holds w2 (some ⟨g2, 0, none⟩) (nums (bs ++ [x]))) := holds_as (own_fresh0' hown2).holds HNM.out; have HW2 := Lib.hid ((HBW.out.below HB.out).below hc2); have HC2 := Lib.hid hc2; clear hown2 hg2 hat2 hc2) | (refine step_append_lies _ rfl (.tmp 34) (.tmp 39) 22 rfl wr.heap.size 3 i0 (.int .i64 0) 1 8 Try.underlying22 HI.out HZ0.out HZ1.out HZ2.out rfl (by decide) (.slice A1 k c1) k (nums bs) (by simp [Act.eval]) HOB.out ⟨wr.heap.size, 0, none⟩ 1 1 [.int .i64 x] (by simp [Act.eval]) rfl HNB.out (by simp [Value.oneCell']) (by decide) HM1.out HY1.out hs1 w1.heap.size rfl ?_; intro g2 c2 w2 hown2 hg2 hat2 hlt2; have hc2 : Below wr.heap.size wr w2 := HCB.out.grown hg2 hs1 (fun kk e => (HOB.out.lt kk e).1); have hs2 : wr.heap.size ≤ w2.heap.size := hc2.size; have hcx2 := (hc2.cell (p := ⟨b0, o0 + j, none⟩) (Nat.lt_of_lt_of_le HBL0.out hbs)).trans hcell; have HL2 : Hid (Holds w2 (some ⟨g2, 0, none⟩) (nums (bs ++ [x]))) := holds_as (own_fresh0' hown2).holds HNM.out; have HW2 := Lib.hid ((HBW.out.below HB.out).below hc2); have HC2 := Lib.hid hc2; clear hown2 hg2 hat2 hc2) | (go_at_call 143; have hcall := HIH.out (some ⟨g2, 0, none⟩) (some ⟨b0, o0, none⟩) (k + 1) c2 n c (j + 1) (bs ++ [x]) os w2 (by omega) hn8 (by omega) HL2.out HW2.out HFL.out HN.out HKM.out (fun h => (by cases h)); rw [← HCAST.out] at hcall; refine hcall.mono ?_; clear hcall; rintro e w4 ⟨A4, c4, rs4, rfl, hr4, hn4, hs4, hh4, hb4⟩; obtain ⟨b4, rfl, hp4⟩ := subs_some hn4 hs4 hr4 HPOS.out; have hc4 : Below wr.heap.size wr w4 := below_then HC2.out hb4 hs2; have hcx4 := (hc4.cell (p := ⟨b0, o0 + j, none⟩) (Nat.lt_of_lt_of_le HBL0.out hbs)).trans hcell; have hs4' : wr.heap.size ≤ w4.heap.size := hc4.size; have HR4 := Lib.hid hr4; have HH4 := Lib.hid (hh4.raise hs2); have HC4 := Lib.hid hc4; have HOA := Lib.hid (HH.out.below hc4).1; have HP4 := Lib.hid hp4; have HL4 : Hid (acc.length + rs4.length ≤ 256) := rows_le HAL.out hr4; have HM4 := Lib.hid (show acc.length + rs4.length ≤ maxLen from (by have := HL4.out; unfold maxLen; omega)); have HY4 := Lib.hid (show (acc.length + rs4.length) * 24 ≤ 140737488355328 from (by have := HL4.out; omega)); have HZ4 := Lib.hid (show w.heap.size ≤ w4.heap.size from (by omega)); clear hr4 hn4 hs4 hh4 hb4 hc4 hp4) | (refine step_append_lies _ rfl (.tmp 31) (.tmp 44) 28 rfl w.heap.size 22 i1 (.slice none 0 0) 1 24 Try.underlying28 RI.out RZ0.out RZ1.out RZ2.out rfl (by decide) (.slice E acc.length d) acc.length (rowVals acc) (by simp [Act.eval]) HOA.out ⟨b4, 0, none⟩ rs4.length c4 (rowVals rs4) (by simp [Act.eval]) (rows_len1 rs4) (heads_news HH4.out) (rowVals_one rs4) HP4.out HM4.out HY4.out HZ4.out w4.heap.size rfl ?_; intro g5 c5 w5 hown5 hg5 hat5 hlt5; have HJ := Lib.hid (Heads.join HH.out hbs HC4.out HH4.out hown5 hg5 hat5); have HB5 := Lib.hid ((below_then HB.out HC4.out hbs).grown hg5 HZ4.out (fun kk e => (HOA.out.lt kk e).1)); have hcx5 : w5.cell? ⟨b0, o0 + j, none⟩ = some (.int .i64 x) := (HB5.out.cell (p := ⟨b0, o0 + j, none⟩) HBL0.out).trans hcellw; clear hown5 hg5 hat5 hlt5) | fail)
              all_goals (go_wp2_with fail; go_meet)
              all_goals exact ⟨some ⟨g5, 0, none⟩, c5, acc ++ rs4, by rw [List.length_append], by rw [show rowNums (acc ++ rs4) = rowNums acc ++ rowNums rs4 by simp [rowNums], HR4.out]; exact HNX.out, fun h => (by cases h), fun a h => by obtain rfl := Option.some.inj h; exact ⟨rfl, by rw [List.length_append]; have := HP4.out; omega⟩, HJ.out, HB5.out⟩
            case rest =>
              obtain ⟨E', d', acc', rfl, r1, r2, r3, r4, r5⟩ := hcut
              have HR1 := Lib.hid r1
              have HR2 := Lib.hid r2
              have HR3 := Lib.hid r3
              have HR4 := Lib.hid r4
              have HR5 := Lib.hid r5
              clear r1 r2 r3 r4 r5
              go_wp2
              go_roundw
              case rel => exact ⟨j + 1, by omega, by omega, by go_num, E', d', acc', rfl, HR1.out, HR2.out, HR3.out, HR4.out, HR5.out⟩
              case measure => simp [intOf]; omega
          · obtain rfl : j = n := by omega
            have HR : Hid (rowNums acc = G) := by show _ = _; rw [← hac, List.drop_eq_nil_of_le (by have := HN.out; omega)]; simp [subs]
            have HH := Lib.hid hh
            have HEN := Lib.hid hEn
            have HES := Lib.hid hEs
            clear hac hh hEn hEs
            go_wp2
            go_ret
            exact ⟨E, d, acc, rfl, HR.out, HEN.out, HES.out, HH.out, hb⟩
end Go.Proofs.Ytkocompjjogciaa

namespace Go.Proofs.Ytkocompjjogciaa
open Go.RowKit

/-- What a call hands back that makes a list of lists and tells whether it did. -/
def BackPost (ls : List (List Int)) (ok : Bool) (w : World) (e : Ending) (w' : World) : Prop :=
  ∃ (A : Option Addr) (n c : Nat) (rs : List RowV), e = .returned (.tuple #[.slice A n c, .bool ok]) ∧ rowNums rs = ls ∧ rs.length = n ∧ FreeGrid w' w.heap.size w'.heap.size A rs ∧ Below w.heap.size w w'
theorem BackPost.no {w w' : World} (h : Below w.heap.size w w') : BackPost [] false w (.returned (.tuple #[.slice none 0 0, .bool false])) w' :=
  ⟨none, 0, 0, [], rfl, rfl, rfl, (Heads.nil w' w.heap.size).free, h⟩
theorem part_lens {w : World} {A : Option Addr} {rs : List RowV} (h : Grid w A rs) : part rs rs.length = ((rowNums rs).map List.length).sum := by
  rw [part_sum]
  have : ∀ ts : List RowV, (∀ r ∈ ts, r.xs.length = r.n) → ts.map RowV.n = (rowNums ts).map List.length := by
    intro ts ht
    simp only [rowNums, List.map_map]
    exact List.map_congr_left fun r hr => (ht r hr).symm
  rw [this rs fun r hr => (h.2 r hr).2.1]
theorem sum_lens {ls : List (List Int)} {k : Nat} (h : ∀ l ∈ ls, l.length ≤ k) : (ls.map List.length).sum ≤ k * ls.length := by
  induction ls with
  | nil => simp
  | cons l ls ih =>
    have h1 := h l (by simp)
    have h2 := ih fun x hx => h x (List.mem_cons_of_mem _ hx)
    rw [List.map_cons, List.sum_cons, List.length_cons, Nat.mul_succ]
    omega
end Go.Proofs.Ytkocompjjogciaa

namespace Go.Proofs.Ytkocompjjogciaa
open Go.RowKit

/-- All trips in a state. -/
def tripsIn (n : Nat) (s : Int) (bs : List Bool) (t : Bool) : List (List Int) := subs s.toNat (hereTo bs t n) []

end Go.Proofs.Ytkocompjjogciaa

namespace Go.Proofs.Ytkocompjjogciaa
open Go.RowKit

theorem here_range (bs : List Bool) (t : Bool) (n : Nat) : hereTo bs t n = ((List.range n).map Int.ofNat).filter (fun k => bs.getD k.toNat false == t) := by
  rw [hereTo, List.filter_map]
  rfl
/-- The trips in a state are those of all lists of people whose people are where the torch is. -/
theorem trips_mem (n : Nat) (s : Int) (bs : List Bool) (t : Bool) (l : List Int) :
    l ∈ tripsIn n s bs t ↔ l ∈ subs s.toNat ((List.range n).map Int.ofNat) [] ∧ ∀ k ∈ l, bs.getD k.toNat false = t := by
  rw [tripsIn, subs_mem, subs_mem]
  constructor
  · rintro ⟨c, hc, hne, hs, hl⟩
    rw [List.nil_append] at hc
    subst hc
    rw [here_range] at hs
    refine ⟨⟨l, by simp, hne, hs.trans List.filter_sublist, hl⟩, fun k hk => ?_⟩
    have := hs.subset hk
    simpa using (List.mem_filter.1 this).2
  · rintro ⟨⟨c, hc, hne, hs, hl⟩, hall⟩
    rw [List.nil_append] at hc
    subst hc
    refine ⟨l, by simp, hne, ?_, hl⟩
    rw [here_range]
    have h := hs.filter (fun k => bs.getD k.toNat false == t)
    rwa [List.filter_eq_self.2 (fun k hk => by simpa using hall k hk)] at h
theorem trips_in (n : Nat) (s : Int) (bs : List Bool) (t : Bool) {l : List Int} (h : l ∈ tripsIn n s bs t) : l ≠ [] ∧ ∀ k ∈ l, 0 ≤ k ∧ k < n := by
  rw [trips_mem, subs_mem] at h
  obtain ⟨⟨c, hc, hne, hs, -⟩, -⟩ := h
  rw [List.nil_append] at hc
  subst hc
  refine ⟨hne, fun k hk => ?_⟩
  have := hs.subset hk
  simp only [List.mem_map, List.mem_range] at this
  obtain ⟨j, hj, rfl⟩ := this
  exact ⟨Int.natCast_nonneg j, by show (j : Int) < n; omega⟩
theorem flipped_twice (bs : List Bool) (l : List Int) : flipped (flipped bs l) l = bs := by
  refine List.ext_getElem? fun i => ?_
  by_cases h : i < bs.length
  · rw [flipped_at _ l (by rw [flipped_len]; exact h), flipped_get bs l h, List.getElem?_eq_getElem h]
    have : bs.getD i false = bs[i] := by simp [h]
    rw [this]
    cases bs[i] <;> cases has l i <;> rfl
  · rw [List.getElem?_eq_none (by rw [flipped_len, flipped_len]; omega), List.getElem?_eq_none (by omega)]
/-- A trip of a party of n from a place to a place, with its time. -/
def Leg (xs : List Int) (n : Nat) (s : Int) (a : List Bool × Bool) (t : Int) (b : List Bool × Bool) : Prop :=
  a.1.length = n ∧ ∃ l, l ∈ tripsIn n s a.1 a.2 ∧ t = slowOf xs l ∧ b = (flipped a.1 l, !a.2)
theorem leg_back {xs : List Int} {n : Nat} {s t : Int} {a b : List Bool × Bool} (h : Leg xs n s a t b) : Leg xs n s b t a := by
  obtain ⟨hn, l, hl, rfl, rfl⟩ := h
  obtain ⟨bs, o⟩ := a
  dsimp only at hn hl
  refine ⟨by rw [flipped_len]; exact hn, l, ?_, rfl, by rw [flipped_twice, Bool.not_not]⟩
  have hin := (trips_in n s bs o hl).2
  rw [trips_mem] at hl ⊢
  refine ⟨hl.1, fun k hk => ?_⟩
  have hb := hin k hk
  show (flipped bs l).getD k.toNat false = !o
  rw [flipped_get bs l (by omega), hl.2 k hk]
  have : has l k.toNat = true := has_iff.2 (by rw [Int.toNat_of_nonneg hb.1]; exact hk)
  rw [this]
  cases o <;> rfl
theorem foldl_max (f : List Int) (a : Int) : a ≤ f.foldl max a ∧ ∀ x ∈ f, x ≤ f.foldl max a := by
  induction f generalizing a with
  | nil => exact ⟨Int.le_refl _, fun _ h => by cases h⟩
  | cons y f ih =>
    obtain ⟨h1, h2⟩ := ih (max a y)
    refine ⟨by have := h1; simp only [List.foldl_cons]; omega, fun x hx => ?_⟩
    rcases List.mem_cons.1 hx with rfl | hx
    · simp only [List.foldl_cons]; omega
    · exact h2 x hx
theorem leg_time {xs : List Int} {n : Nat} {s t : Int} {a b : List Bool × Bool} (hx : xs.length = n) (hxs : ∀ y ∈ xs, 1 ≤ y) (h : Leg xs n s a t b) : 1 ≤ t := by
  obtain ⟨-, l, hl, rfl, -⟩ := h
  obtain ⟨hne, hin⟩ := trips_in n s a.1 a.2 hl
  obtain ⟨k, r, rfl⟩ := List.exists_cons_of_ne_nil hne
  have hk := hin k (by simp)
  have hkx : k.toNat < xs.length := by omega
  have h1 := hxs _ (List.getElem_mem hkx)
  have h2 := (foldl_max ((k :: r).map fun k => xs.getD k.toNat 0) 0).2 (xs.getD k.toNat 0) (by simp)
  have h3 : xs.getD k.toNat 0 = xs[k.toNat] := by simp [hkx]
  rw [h3] at h2
  exact Int.le_trans h1 h2
/-- From one state to another it takes as long as back, however each is searched for. -/
theorem leg_turn {xs : List Int} {n : Nat} {s : Int} {a b : List Bool × Bool} {da db : List Bool × Bool → Option Int} (hx : xs.length = n) (hxs : ∀ y ∈ xs, 1 ≤ y) (ha : Least (Leg xs n s) a da) (hb : Least (Leg xs n s) b db) : da b = db a :=
  least_turn (fun _ _ _ h => leg_time hx hxs h) (fun _ _ _ h => leg_back h) ha hb
end Go.Proofs.Ytkocompjjogciaa

namespace Go.Proofs.Ytkocompjjogciaa
open Go.RowKit

theorem own_place {w : World} {base g : Nat} {e : TypeId} {size : Nat} {v : Value} {n : Nat} {xs : List Value} {v0 v1 v2 v3 v4 v5 v6 v7 v8 : Value} (h : w.ownsRow base e size v n xs) (hg : g < base) :
    World.ownsRow (((((((((w.setCell ⟨g, 0, none⟩ v0).setCell ⟨g, 1, none⟩ v1).setCell ⟨g, 2, none⟩ v2).setCell ⟨g, 3, none⟩ v3).setCell ⟨g, 4, none⟩ v4).setCell ⟨g, 5, none⟩ v5).setCell ⟨g, 6, none⟩ v6).setCell ⟨g, 7, none⟩ v7).setCell ⟨g, 8, none⟩ v8) base e size v n xs :=
  ownsRow_setCell_below (ownsRow_setCell_below (ownsRow_setCell_below (ownsRow_setCell_below (ownsRow_setCell_below (ownsRow_setCell_below (ownsRow_setCell_below (ownsRow_setCell_below (ownsRow_setCell_below h hg _) hg _) hg _) hg _) hg _) hg _) hg _) hg _) hg _

/-- What walk hands back. -/
def WalkPost (n : Nat) (s : Int) (bs : List Bool) (t : Bool) (ls : List (List Int)) (w : World) (e : Ending) (w' : World) : Prop :=
  ∃ (T : Option Addr) (c : Nat), e = .returned (.tuple #[.slice T (made n s bs t ls) c, .agg (placeCells (ended n s bs t ls).1 (ended n s bs t ls).2)]) ∧ w'.ownsRow (w.heap.size + 1 + 1 + 1) 111 8 (.slice T (made n s bs t ls) c) (made n s bs t ls) (crowdsOf (ls.take (made n s bs t ls))) ∧ Below w.heap.size w w'

end Go.Proofs.Ytkocompjjogciaa

namespace Go.Proofs.Ytkocompjjogciaa
open Go.RowKit

def asked (xs : List Int) (n : Nat) (s : Int) (bs : List Bool) (t : Bool) : Bool := isParty xs s && isState n bs t
noncomputable def failOk (xs : List Int) (n : Nat) (s : Int) (bs : List Bool) (t : Bool) (ls : List (List Int)) : Bool := asked xs n s bs t && (decide (ls.length ≤ 40) && decide (made n s bs t ls ≠ ls.length))
noncomputable def failAt (xs : List Int) (n : Nat) (s : Int) (bs : List Bool) (t : Bool) (ls : List (List Int)) : Int := if failOk xs n s bs t ls then made n s bs t ls else 0
theorem fail_no {xs : List Int} {n : Nat} {s : Int} {bs : List Bool} {t : Bool} {ls : List (List Int)} (h : asked xs n s bs t = false ∨ 40 < ls.length ∨ made n s bs t ls = ls.length) : failOk xs n s bs t ls = false ∧ failAt xs n s bs t ls = 0 := by
  have h0 : failOk xs n s bs t ls = false := by
    rcases h with h | h | h
    · simp [failOk, h]
    · simp [failOk]; omega
    · simp [failOk, h]
  exact ⟨h0, by simp [failAt, h0]⟩
theorem fail_yes {xs : List Int} {n : Nat} {s : Int} {bs : List Bool} {t : Bool} {ls : List (List Int)} (h : asked xs n s bs t = true) (h40 : ls.length ≤ 40) (hm : made n s bs t ls ≠ ls.length) : failOk xs n s bs t ls = true ∧ failAt xs n s bs t ls = made n s bs t ls := by
  have h0 : failOk xs n s bs t ls = true := by simp [failOk, h, h40, hm]
  exact ⟨h0, by simp [failAt, h0]⟩
theorem asked_len {xs : List Int} {n : Nat} {s : Int} {bs : List Bool} {t : Bool} (h : asked xs n s bs t = true) (hx : xs.length = n) : n ≤ 8 ∧ 0 < n ∧ bs.length = n := by
  simp only [asked, Bool.and_eq_true, isState, decide_eq_true_eq] at h
  have h1 := isParty_le h.1
  refine ⟨by omega, ?_, h.2.1⟩
  have h2 := h.1
  simp only [isParty, Bool.and_eq_true] at h2
  have := (within_iff.1 h2.1).1
  omega

/-- What TripThatFails hands back. -/
def FailPost (v : Int) (ok : Bool) (w : World) (e : Ending) (w' : World) : Prop := e = .returned (.tuple #[.int .i64 v, .bool ok]) ∧ Below w.heap.size w w'

end Go.Proofs.Ytkocompjjogciaa

namespace Go.Proofs.Ytkocompjjogciaa
open Go.RowKit

/-- What IsCalmPlan hands back. -/
def TwoTold (a b : Bool) (w : World) (e : Ending) (w' : World) : Prop := e = .returned (.tuple #[.bool a, .bool b]) ∧ Below w.heap.size w w'
def cpOk (a b : Int) (ls : List (List Int)) : Bool := isCo a b && decide (ls.length ≤ 40)
noncomputable def isCP (a b : Int) (ls : List (List Int)) : Bool := cpOk a b ls && planM a.toNat b (2 * 2 ^ (2 * a.toNat) - 1) 0 ls
theorem cp_no {a b : Int} {ls : List (List Int)} (h : isCo a b = false ∨ 40 < ls.length) : cpOk a b ls = false ∧ isCP a b ls = false := by
  have h0 : cpOk a b ls = false := by
    rcases h with h | h
    · simp [cpOk, h]
    · simp [cpOk]; omega
  exact ⟨h0, by simp [isCP, h0]⟩
theorem cp_yes {k : Nat} {b : Int} {ls : List (List Int)} (h : isCo k b = true) (h40 : ls.length ≤ 40) : cpOk k b ls = true ∧ isCP k b ls = planM k b (2 * 2 ^ (2 * k) - 1) 0 ls := by
  have h0 : cpOk k b ls = true := by simp [cpOk, h, h40]
  exact ⟨h0, by simp [isCP, h0]⟩

end Go.Proofs.Ytkocompjjogciaa

namespace Go.Proofs.Ytkocompjjogciaa
open Go.RowKit

/-- Do lists, from a place on, lead over by rides? -/
def playW (p : Nat) (L : List (List Int)) : List Bool → Bool → List (List Int) → Bool
  | bs, t, [] => sameBits bs (trues p) && t
  | bs, t, l :: ls => decide (l ∈ ridesAt bs t L) && playW p L (flipped bs l) (!t) ls
theorem playW_stop {p : Nat} {L : List (List Int)} {bs : List Bool} {t : Bool} {ls : List (List Int)} {j : Nat} (hj : j < ls.length) (h : ls[j] ∉ ridesAt bs t L) : playW p L bs t (ls.drop j) = false := by
  rw [List.drop_eq_getElem_cons hj, playW, decide_eq_false h]; rfl
theorem playW_next {p : Nat} {L : List (List Int)} {bs : List Bool} {t : Bool} {ls : List (List Int)} {j : Nat} (hj : j < ls.length) (h : ls[j] ∈ ridesAt bs t L) : playW p L bs t (ls.drop j) = playW p L (flipped bs ls[j]) (!t) (ls.drop (j + 1)) := by
  rw [List.drop_eq_getElem_cons hj, playW, decide_eq_true h]; rfl

set_option maxHeartbeats 12800000 in
set_option maxRecDepth 100000 in
theorem leadsCrew_any (T : List Int → Int) (p gL g : Nat) (A : Option Addr) (c : Nat) (L : List (List Int)) (D : Option Addr) (n z : Nat) (rs : List RowV) (w : World) (hp8 : p ≤ 8) (hLl : L.length ≤ 255) (hup : ∀ l ∈ L, l ∈ upLists p p) (hF : RidesFn w T gL g A c L) (hD : Grid w D rs) (hz : rs.length = n) (hn : n ≤ 9223372036854775807) (h40 : n ≤ 1048576) :
    Calls Try.prog 105 #[.agg (crewCells p gL), .slice D n z] w fun e w' => e = .returned (.bool (playW p L (falses (p)) false (rowNums rs))) ∧ Below w.heap.size w w' := by
  have HZ := Lib.hid hz
  have HLS := Lib.hid (rowNums_len rs)
  obtain ⟨Q, hP⟩ : ∃ Q : Bool, Q = playW p L (falses (p)) false (rowNums rs) := ⟨_, rfl⟩
  have HPP := Lib.hid hP
  rw [← hP]
  clear hz hP
  have HRF := Lib.hid hF
  have HR0 := Lib.hid (Whole.fresh w 119 (crewCells p gL))
  have HB0 := Lib.hid (below1 w (.cells (crewCells p gL) 119))
  have hw0 := HR0.out.lt
  go_enter Try.func105, Try.ntmps105
  go_upto_region 1 with fail
  generalize World.alloc w (.cells (crewCells p gL) 119) = W0 at HR0 HB0 hw0 ⊢
  have e0 : W0.cell? ⟨w.heap.size, 0, none⟩ = some (.bool false) := HR0.out.cell 0
  have e1 : W0.cell? ⟨w.heap.size, 1, none⟩ = some (.bool false) := HR0.out.cell 1
  have e2 : W0.cell? ⟨w.heap.size, 2, none⟩ = some (.bool false) := HR0.out.cell 2
  have e3 : W0.cell? ⟨w.heap.size, 3, none⟩ = some (.bool false) := HR0.out.cell 3
  have e4 : W0.cell? ⟨w.heap.size, 4, none⟩ = some (.bool false) := HR0.out.cell 4
  have e5 : W0.cell? ⟨w.heap.size, 5, none⟩ = some (.bool false) := HR0.out.cell 5
  have e6 : W0.cell? ⟨w.heap.size, 6, none⟩ = some (.bool false) := HR0.out.cell 6
  have e7 : W0.cell? ⟨w.heap.size, 7, none⟩ = some (.bool false) := HR0.out.cell 7
  have e8 : W0.cell? ⟨w.heap.size, 8, none⟩ = some (.bool false) := HR0.out.cell 8
  go_upto_region 2 with (refine wpList_store_whole rfl 113 (.tmp 5) (.tmp 11) rfl W0.heap.size (placeCells [] false) rfl rfl 113 _ (Whole.fresh _ _ _) size_place rfl (place_one _ _) ?_; intro W3 hw3 ho3)
  have hne : w.heap.size ≠ W0.heap.size := by omega
  have HR3 := Lib.hid (ho3.whole (HR0.out.alloc _) hne)
  have HB3 := Lib.hid (ho3.below (HB0.out.alloc HB0.out.size _) (by omega))
  rw [← place_falses (p)] at hw3
  have HW3 := Lib.hid hw3
  clear hw3 ho3 e0 e1 e2 e3 e4 e5 e6 e7 e8
  go_wp2_with fail
  go_loopw [14] (fun i wr => ∃ (j : Nat) (bs : List Bool) (t : Bool), j ≤ n ∧ i = .int .i64 j ∧ bs.length = p ∧ Q = playW p L bs t ((rowNums rs).drop j) ∧ Whole wr w.heap.size 119 (crewCells p gL) ∧ Whole wr W0.heap.size 113 (placeCells bs t) ∧ Below w.heap.size w wr) (fun i _ => n - (intOf i).toNat)
  case atStart => exact ⟨0, falses (p), false, Nat.zero_le _, rfl, falses_len _, HPP.out, HR3.out, HW3.out, HB3.out⟩
  case round =>
    obtain ⟨j, bs, t, hj, rfl, hbs, hpl, hR, hPl, hb⟩ := hrel
    have HBS := Lib.hid hbs
    have HPL := Lib.hid hpl
    have HR := Lib.hid hR
    have HPC := Lib.hid hPl
    have HB := Lib.hid hb
    have hpll := hPl.lt
    clear hbs hpl
    by_cases hlt : j < n
    · have hlt' : j < rs.length := by have := HZ.out; omega
      have hlj : j < (rowNums rs).length := by rw [HLS.out]; exact hlt'
      have hDr := hD.below hb
      obtain ⟨b, o, rfl, hbl, hcell, hrow, hrl, hrn⟩ := hDr.look hlt'
      have HRW := Lib.hid hrow
      have HRL := Lib.hid hrl
      have HGT : Hid ((rowNums rs)[j] = rs[j].xs) := by show _ = _; simp [rowNums]
      clear hR hPl hb hDr hrow hrl
      go_wp2_with (first | (refine wpList_load_row rfl 119 (.tmp 2) rfl w.heap.size rfl 119 (crewCells p gL) (0, 0) _ HR.out Try.underlying119 rfl size_river ?_) | (refine wpList_load_row rfl 113 (.tmp 5) rfl W0.heap.size rfl 113 (placeCells bs t) (0, 0) _ HPC.out Try.underlying113 rfl size_place ?_))
      refine (behindCrew_any T p gL g A _ c _ _ L bs t rs[j].xs _ hp8 HBS.out hLl hup (HRF.out.below HB.out) HRW.out HRL.out hrn).mono ?_
      rintro e w4 ⟨⟨hmem, rfl⟩ | ⟨hmem, rfl⟩, hb4⟩
      · have HNX : Hid (Q = playW p L (flipped bs rs[j].xs) (!t) ((rowNums rs).drop (j + 1))) := by
          show _ = _
          rw [HPL.out, playW_next hlj (by rw [HGT.out]; exact hmem), HGT.out]
        have hPl4 := HPC.out.below hb4
        have hp4 := hPl4.lt
        have hR4 := HR.out.below hb4
        have HB4 := Lib.hid (below_then HB.out hb4 HB.out.size)
        have hn4 : W0.heap.size ≠ w4.heap.size := by omega
        have hn4' : w.heap.size ≠ w4.heap.size := by omega
        have HP4 := Lib.hid hPl4
        have HR4 := Lib.hid hR4
        clear hmem hb4 hcell hPl4 hR4
        go_upto_region 6 with (refine wpList_store_whole rfl 113 (.tmp 8) (.tmp 23) rfl w4.heap.size (placeCells (flipped bs rs[j].xs) (!t)) rfl rfl 113 _ (Whole.fresh _ _ _) size_place rfl (place_one _ _) ?_; intro W5 hw5 ho5)
        have HW5 := Lib.hid hw5
        have HP5 := Lib.hid (ho5.whole (HP4.out.alloc _) hn4)
        have HR5 := Lib.hid (ho5.whole (HR4.out.alloc _) hn4')
        have HB5 := Lib.hid (ho5.below (HB4.out.alloc HB4.out.size _) HB4.out.size)
        clear hw5 ho5
        go_upto_region 9 with (first | (refine wpList_load_row rfl 113 (.tmp 8) rfl w4.heap.size rfl 113 (placeCells (flipped bs rs[j].xs) (!t)) (0, 0) _ HW5.out Try.underlying113 rfl size_place ?_) | (refine wpList_store_whole rfl 113 (.tmp 5) (.tmp 27) rfl W0.heap.size (placeCells (flipped bs rs[j].xs) (!t)) rfl rfl 113 _ HP5.out size_place rfl (place_one _ _) ?_; intro W6 hw6 ho6))
        have HW6 := Lib.hid hw6
        have HR6 := Lib.hid (ho6.whole HR5.out hne)
        have HB6 := Lib.hid (ho6.below HB5.out (by omega))
        clear hw6 ho6
        go_wp2
        go_roundw
        case measure => simp [intOf]; omega
        case rel => exact ⟨j + 1, flipped bs rs[j].xs, !t, by omega, by go_num, by rw [flipped_len]; exact HBS.out, HNX.out, HR6.out, HW6.out, HB6.out⟩
      · have HST : Hid (Q = false) := by show _ = _; rw [HPL.out]; exact playW_stop hlj (by rw [HGT.out]; exact hmem)
        have HB4 := Lib.hid (below_then HB.out hb4 HB.out.size)
        clear hmem hb4 hcell
        go_upto_region 6 with (refine wpList_store_whole rfl 113 (.tmp 8) (.tmp 23) rfl w4.heap.size (placeCells bs t) rfl rfl 113 _ (Whole.fresh _ _ _) size_place rfl (place_one _ _) ?_; intro W5 hw5 ho5)
        have HB5 := Lib.hid (ho5.below (HB4.out.alloc HB4.out.size _) HB4.out.size)
        clear hw5 ho5
        go_wp2
        go_ret
        exact ⟨by rw [HST.out]; rfl, HB5.out⟩
    · have hje : j = n := by omega
      obtain ⟨f, hf⟩ : ∃ f : Nat → Bool, f = fun i => bs.getD i false := ⟨_, rfl⟩
      obtain ⟨u, hu⟩ : ∃ u : Nat → Bool, u = firstN (p) := ⟨_, rfl⟩
      have HEN : Hid (Q = samePlace (f 0) (f 1) (f 2) (f 3) (f 4) (f 5) (f 6) (f 7) t (u 0) (u 1) (u 2) (u 3) (u 4) (u 5) (u 6) (u 7) true) := by
        show _ = _
        have h := sameBits_ext (bs := bs) (cs := trues (p)) (HBS.out.trans (trues_len _).symm) (by have := HBS.out; omega)
        simp only [trues_at] at h
        rw [HPL.out, List.drop_eq_nil_of_le (by rw [HLS.out]; have := HZ.out; omega), playW]
        simp only [samePlace, hf, hu, h]
        simp
      rw [place_nine9, ← hf] at hPl
      obtain ⟨p0, p1, p2, p3, p4, p5, p6, p7⟩ := row8_of hPl
      have p8 : wr.cell? ⟨W0.heap.size, 8, none⟩ = some (.bool t) := hPl.cell 8
      have r0 : wr.cell? ⟨w.heap.size, 9, none⟩ = some (.bool (u 0)) := by rw [hu]; exact hR.cell 9
      have r1 : wr.cell? ⟨w.heap.size, 10, none⟩ = some (.bool (u 1)) := by rw [hu]; exact hR.cell 10
      have r2 : wr.cell? ⟨w.heap.size, 11, none⟩ = some (.bool (u 2)) := by rw [hu]; exact hR.cell 11
      have r3 : wr.cell? ⟨w.heap.size, 12, none⟩ = some (.bool (u 3)) := by rw [hu]; exact hR.cell 12
      have r4 : wr.cell? ⟨w.heap.size, 13, none⟩ = some (.bool (u 4)) := by rw [hu]; exact hR.cell 13
      have r5 : wr.cell? ⟨w.heap.size, 14, none⟩ = some (.bool (u 5)) := by rw [hu]; exact hR.cell 14
      have r6 : wr.cell? ⟨w.heap.size, 15, none⟩ = some (.bool (u 6)) := by rw [hu]; exact hR.cell 15
      have r7 : wr.cell? ⟨w.heap.size, 16, none⟩ = some (.bool (u 7)) := by rw [hu]; exact hR.cell 16
      have r8 : wr.cell? ⟨w.heap.size, 17, none⟩ = some (.bool true) := hR.cell 17
      clear hR hPl hb hje hf hu
      go_wp2
      go_ret
      exact ⟨by rw [HEN.out]; rfl, HB.out⟩
end Go.Proofs.Ytkocompjjogciaa

namespace Go.Proofs.Ytkocompjjogciaa
open Go.RowKit

/-- The places lie in block b0, an old one, or in a new one, but none of the call's own first three. -/
def Beside (B b0 : Nat) (w : World) (A : Option Addr) (xs : List Value) : Prop := b0 < B ∧ ∃ b o, A = some ⟨b, o, none⟩ ∧ b < w.heap.size ∧ (b = b0 ∨ B + 1 + 1 + 1 ≤ b) ∧ ∀ j u, xs[j]? = some u → w.cell? ⟨b, o + j, none⟩ = some u
theorem Beside.holds {B b0 : Nat} {w : World} {A : Option Addr} {xs : List Value} (h : Beside B b0 w A xs) : Holds w A xs := by
  obtain ⟨-, b, o, hA, hb, -, hc⟩ := h
  exact .inr ⟨b, o, hA, hb, hc⟩
theorem Beside.below {B b0 : Nat} {w w' : World} {A : Option Addr} {xs : List Value} (h : Beside B b0 w A xs) (hb : Below w.heap.size w w') : Beside B b0 w' A xs := by
  obtain ⟨h0, b, o, hA, hl, hd, hc⟩ := h
  exact ⟨h0, b, o, hA, Nat.lt_of_lt_of_le hl hb.size, hd, fun j u hu => (hb.cell (p := ⟨b, o + j, none⟩) hl).trans (hc j u hu)⟩
theorem Beside.set {B b0 g i : Nat} {w : World} {A : Option Addr} {xs : List Value} (h : Beside B b0 w A xs) (hg : B ≤ g ∧ g ≤ B + 1 + 1) (v : Value) : Beside B b0 (w.setCell ⟨g, i, none⟩ v) A xs := by
  obtain ⟨h0, b, o, hA, hl, hd, hc⟩ := h
  refine ⟨h0, b, o, hA, by simpa [World.setCell] using hl, hd, fun j u hu => ?_⟩
  have h1 := hc j u hu
  have h2 := Below.heap_setCell w ⟨g, i, none⟩ v b (by show b ≠ g; omega)
  simp only [World.cell?] at h1 ⊢
  rw [h2]
  exact h1
/-- A list that lies in block b0, or in a block from B on. -/
def OldOrNew (B b0 : Nat) (w : World) (A : Option Addr) (xs : List Value) : Prop := ∃ b o, A = some ⟨b, o, none⟩ ∧ b < w.heap.size ∧ (b = b0 ∨ B ≤ b) ∧ ∀ j u, xs[j]? = some u → w.cell? ⟨b, o + j, none⟩ = some u
theorem Beside.oldOrNew {B b0 : Nat} {w : World} {A : Option Addr} {xs : List Value} (h : Beside B b0 w A xs) : OldOrNew B b0 w A xs := by
  obtain ⟨-, b, o, hA, hl, hd, hc⟩ := h
  exact ⟨b, o, hA, hl, by omega, hc⟩
theorem OldOrNew.holds {B b0 : Nat} {w : World} {A : Option Addr} {xs : List Value} (h : OldOrNew B b0 w A xs) : Holds w A xs := by
  obtain ⟨b, o, hA, hb, -, hc⟩ := h
  exact .inr ⟨b, o, hA, hb, hc⟩
theorem OldOrNew.alloc {B b0 : Nat} {w : World} {A : Option Addr} {xs : List Value} (h : OldOrNew B b0 w A xs) (x : Obj) : OldOrNew B b0 (w.alloc x) A xs := by
  obtain ⟨b, o, hA, hb, hd, hc⟩ := h
  exact ⟨b, o, hA, by simp; omega, hd, fun j u hu => (World.cell?_alloc_lt w x ⟨b, o + j, none⟩ hb).trans (hc j u hu)⟩
theorem OldOrNew.set {B b0 g i : Nat} {w : World} {A : Option Addr} {xs : List Value} (h : OldOrNew B b0 w A xs) (hg : g < B) (hg0 : g ≠ b0) (v : Value) : OldOrNew B b0 (w.setCell ⟨g, i, none⟩ v) A xs := by
  obtain ⟨b, o, hA, hl, hd, hc⟩ := h
  refine ⟨b, o, hA, by simpa [World.setCell] using hl, hd, fun j u hu => ?_⟩
  have h1 := hc j u hu
  have h2 := Below.heap_setCell w ⟨g, i, none⟩ v b (by show b ≠ g; omega)
  simp only [World.cell?] at h1 ⊢
  rw [h2]
  exact h1
/-- What paPlay hands back. -/
def PlayAt (b0 : Nat) (n : Nat) (s : Int) (bs : List Bool) (t : Bool) (ls : List (List Int)) (m : Nat) (w : World) (e : Ending) (w' : World) : Prop :=
  ∃ (A : Option Addr) (c : Nat), e = .returned (.tuple #[.agg #[.slice A m c, .bool (ended n s bs t ls).2], .int .i64 (made n s bs t ls)]) ∧ OldOrNew w.heap.size b0 w' A (bits (ended n s bs t ls).1) ∧ Below w.heap.size w w'

end Go.Proofs.Ytkocompjjogciaa
