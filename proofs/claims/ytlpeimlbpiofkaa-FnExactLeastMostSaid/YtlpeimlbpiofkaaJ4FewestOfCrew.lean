/-
  What is proved: the contract of the model's list of a group told by bits. Conditions: eight bits.
  What is proved: contracts of the model's tests of a row, told by bits and told as a list. Conditions: at most four couples.
  What is proved: a contract of the model's test of a row told as a list. Conditions: at most four couples.
  What is proved: contracts of the model's test of a plan of rows. Conditions: the lists are read as they lie; at most four couples.
  What is proved: the model's test of a row, on numbers of states, and the program's list of rows, on places, tell the same rows. Conditions: at most four couples.
  What is proved: contracts of the model's party of a crew, of its test of a crew with a state, and of its test of a ride. Conditions: the arguments are read as they lie.
  What is proved: a contract of the program's place of a calm state. Conditions: the arguments are read as they lie.
  What is proved: contracts of the laws' own helpers for crews: their size, their copy, their comparison, their marks. Conditions: the given lists are read as they lie; a copy is of at most 1,048,576 values.
  What is proved: the contract of the program's place of a crew's state. Conditions: the arguments are read as they lie.
  What is proved: that the model's rows, put in one by one, are the program's, in order. Conditions: at most four couples, at most four seats, a calm state.
  What is proved: contracts of the model's order of rows (cuBefore) and of its rows (cuRows). Conditions: the lists are read as they lie; at most four couples.
  What is proved: the contract of the model's paGroups: some people themselves and the rising lists that go on with others. Conditions: the lists are read as they lie; at most eight others, and at most eight to begin with.
  What is proved: plain facts on lists of lists that a call hands back. Conditions: none.
  What is proved: contracts of TripsOf, of the model and of the program. Conditions: the arguments are read as they lie.
  What is proved: which trips the lists of others are, and that each trip leads back in the time in which it led there. Conditions: as each says.
  What is proved: the contract of trips made one after the other by the program. Conditions: the lists are read as they lie; at most eight people.
  What is proved: contracts of TripThatFails, of the model and of the program. Conditions: the arguments are read as they lie.
  What is proved: the numbers of states: the torch, then the people, as digits, and back. Conditions: as each says.
  What is proved: one round of the model's search over a list of times by the states' numbers: what each trip makes of it. Conditions: as each says.
  What is proved: a round of the model's search, on lists by the states' numbers, is a round of a search over states. Conditions: as each says.
  What is proved: one round of the model's search over a crew's states, for any costs of its rides. Conditions: each ride costs 1 or more.
  What is proved: plain facts on the model's pick of the state that waits with the least number. Conditions: none.
  What is proved: plain facts on the model's search over a party's states: what it keeps from round to round, and what it tells at its end. Conditions: each ride costs 1 or more.
-/
import Derived.Deep.RegionHeld3
import Derived.Deep.DeepCutAuto
import Derived.BigQuiet
import Derived.Deep.QuietTactic
import Derived.Laws.AppendOwnNone
import Derived.Deep.CutBlock
import Derived.Test.YtlpeimlbpiofkaaJ3FewestOfCrew
set_option linter.unusedSimpArgs false
set_option linter.unusedVariables false
namespace Go.Proofs.Ytlpeimlbpiofkaa
open Go.RowKit

/-- The first k bits that are set. -/
def listTo (g k : Nat) : List Int := ((List.range k).filter (fun i => bitAt g i)).map Int.ofNat
theorem listTo_yes {g k : Nat} (h : bitAt g k = true) : listTo g (k + 1) = listTo g k ++ [(k : Int)] := by
  simp only [listTo, List.range_succ, List.filter_append, List.map_append, List.filter_cons, h]; rfl
theorem listTo_no {g k : Nat} (h : bitAt g k = false) : listTo g (k + 1) = listTo g k := by
  simp only [listTo, List.range_succ, List.filter_append, List.map_append, List.filter_cons, h]; simp
theorem listTo_len (g k : Nat) : (listTo g k).length ≤ k := by
  have := List.length_filter_le (fun i => bitAt g i) (List.range k)
  simpa [listTo] using this
def listOf (g : Nat) : List Int := listTo g 8
theorem bit_high {g k i : Nat} (h : g / 2 ^ k = 0) (hi : k ≤ i) : bitAt g i = false := by
  rw [bitAt_def]
  have h1 : g < 2 ^ k := by
    rcases Nat.div_eq_zero_iff.1 h with h | h
    · exact absurd h (by have := Nat.two_pow_pos k; omega)
    · exact h
  have h2 : 2 ^ k ≤ 2 ^ i := Nat.pow_le_pow_right (by omega) hi
  rw [Nat.div_eq_of_lt (by omega)]
  rfl
theorem listTo_all {g k : Nat} (h : g / 2 ^ k = 0) : ∀ j, k ≤ j → listTo g j = listTo g k
  | 0, hj => by have : k = 0 := by omega
                subst this; rfl
  | j + 1, hj => by
    by_cases hk : k = j + 1
    · subst hk; rfl
    · rw [listTo_no (bit_high h (by omega)), listTo_all h j (by omega)]
theorem testk (m k : Nat) : (((m : Int) / 2 ^ k).tmod 2 == 1) = bitAt m k := by
  rw [shr_nat, Int.tmod_eq_emod_of_nonneg (Int.natCast_nonneg _), bitAt_def]
  generalize m / 2 ^ k = x
  by_cases h : x % 2 = 1
  · have : ((x : Int) % 2) = 1 := by omega
    simp [h, this]
  · have : ((x : Int) % 2) ≠ 1 := by omega
    simp [h, this]

end Go.Proofs.Ytlpeimlbpiofkaa

namespace Go.Proofs.Ytlpeimlbpiofkaa
open Go.RowKit

/-- Those on the boat's side. -/
def hereM (k x : Nat) : Nat := if x % 2 = 0 then 2 ^ (2 * k) - 1 - x / 2 else x / 2
/-- A row, told by bits. -/
def canM (k : Nat) (q : Int) (x g : Nat) : Bool := decide (g &&& hereM k x = g) && (decide (((listOf g).length : Int) ≤ q) && (calm k (bitAt g) && quiet k (bitAt ((x ^^^ (2 * g + 1)) / 2))))
theorem can_no1 {k : Nat} {q : Int} {x g : Nat} (h : g &&& hereM k x ≠ g) : canM k q x g = false := by simp [canM, h]
theorem can_no2 {k : Nat} {q : Int} {x g : Nat} (h : q < ((listOf g).length : Int)) : canM k q x g = false := by simp [canM]; omega
theorem can_no3 {k : Nat} {q : Int} {x g : Nat} (h : calm k (bitAt g) = false) : canM k q x g = false := by simp [canM, h]
theorem can_on {k : Nat} {q : Int} {x g : Nat} (h1 : g &&& hereM k x = g) (h2 : ¬ q < ((listOf g).length : Int)) (h3 : calm k (bitAt g) = true) : canM k q x g = quiet k (bitAt ((x ^^^ (2 * g + 1)) / 2)) := by
  have h2' : ((listOf g).length : Int) ≤ q := by omega
  simp [canM, h1, h2', h3]

end Go.Proofs.Ytlpeimlbpiofkaa

namespace Go.Proofs.Ytlpeimlbpiofkaa
open Go.RowKit

/-- A row, told as a list. -/
noncomputable def tripM (k : Nat) (q : Int) (x : Nat) (l : List Int) : Bool := within l.length 1 q && (rising l (2 * k - 1) && canM k q x (maskOf l))
theorem tripM_no1 {k : Nat} {q : Int} {x : Nat} {l : List Int} (h : within l.length 1 q = false) : tripM k q x l = false := by simp [tripM, h]
theorem tripM_no2 {k : Nat} {q : Int} {x : Nat} {l : List Int} (h : rising l (2 * k - 1) = false) : tripM k q x l = false := by simp [tripM, h]
theorem tripM_on {k : Nat} {q : Int} {x : Nat} {l : List Int} (h : within l.length 1 q = true) (h2 : rising l (2 * k - 1) = true) : tripM k q x l = canM k q x (maskOf l) := by simp [tripM, h, h2]
theorem mask_pos {l : List Int} {hi : Int} (hs : StepsTo l hi l.length) (h0 : 0 < l.length) : 1 ≤ maskOf l := by
  by_cases hm : maskOf l = 0
  · have h1 := mask_bit l (fun x hx => (mem_steps hs hx).1) (l[0]).toNat
    rw [hm] at h1
    have h2 : has l (l[0]).toNat = true := has_iff.2 (by rw [Int.toNat_of_nonneg (mem_steps hs (List.getElem_mem h0)).1]; exact List.getElem_mem h0)
    rw [h2] at h1
    simp [bitAt] at h1
  · omega

end Go.Proofs.Ytlpeimlbpiofkaa

namespace Go.Proofs.Ytlpeimlbpiofkaa
open Go.RowKit

/-- The number of the state behind a row. -/
noncomputable def stepC (x : Nat) (l : List Int) : Nat := x ^^^ (2 * maskOf l + 1)
/-- Are the lists rows, one after the other, and does the last one end at e? -/
noncomputable def planM (k : Nat) (q : Int) (e : Nat) : Nat → List (List Int) → Bool
  | x, [] => decide (x = e)
  | x, l :: ls => tripM k q x l && planM k q e (stepC x l) ls
theorem planM_stop {k : Nat} {q : Int} {e x : Nat} {ls : List (List Int)} {j : Nat} (hj : j < ls.length) (h : tripM k q x ls[j] = false) : planM k q e x (ls.drop j) = false := by
  rw [List.drop_eq_getElem_cons hj, planM, h]; rfl
theorem planM_next {k : Nat} {q : Int} {e x : Nat} {ls : List (List Int)} {j : Nat} (hj : j < ls.length) (h : tripM k q x ls[j] = true) : planM k q e x (ls.drop j) = planM k q e (stepC x ls[j]) (ls.drop (j + 1)) := by
  rw [List.drop_eq_getElem_cons hj, planM, h]; rfl
theorem trip_mask {k : Nat} {q : Int} {x : Nat} {l : List Int} (hk : k ≤ 4) (h : tripM k q x l = true) : StepsTo l (2 * k - 1) l.length ∧ maskOf l < 2 ^ (2 * k) := by
  simp only [tripM, Bool.and_eq_true] at h
  have hst := rising_steps h.2.1
  have hlen := (within_iff.1 h.1).1
  exact ⟨hst, mask_lt (n := 2 * k) (by have := steps_len hst (by omega); omega) l (fun x hx => by have := (mem_steps hst hx).2; omega)⟩
theorem stepC_lt {k x : Nat} {l : List Int} (hx : x / 2 < 2 ^ (2 * k)) (hm : maskOf l < 2 ^ (2 * k)) : stepC x l / 2 < 2 ^ (2 * k) := by
  have ha : x < 2 ^ (2 * k + 1) := by rw [Nat.pow_succ]; omega
  have hb : 2 * maskOf l + 1 < 2 ^ (2 * k + 1) := by rw [Nat.pow_succ]; omega
  have := Nat.xor_lt_two_pow ha hb
  rw [Nat.pow_succ] at this
  unfold stepC
  omega

end Go.Proofs.Ytlpeimlbpiofkaa

namespace Go.Proofs.Ytlpeimlbpiofkaa
open Go.RowKit

theorem nat_bits {a b : Nat} (h : ∀ i, bitAt a i = bitAt b i) : a = b := Nat.eq_of_testBit_eq h
theorem bit_code (bs : List Bool) (t : Bool) (i : Nat) : bitAt (codeOf bs t) i = if i = 0 then t else (decide (i - 1 < bs.length) && bs.getD (i - 1) false) := by
  cases i with
  | zero =>
    rw [bitAt_def]
    unfold codeOf
    cases t <;> simp <;> omega
  | succ j =>
    have h := bit_maskUp (fun i => bs.getD i false) bs.length j
    rw [← code_half bs t] at h
    simp only [Nat.add_one_ne_zero, if_false, Nat.add_one_sub_one]
    rw [← h, bitAt, bitAt, Nat.testBit_succ]
theorem bit_step (l : List Int) (h0 : ∀ x ∈ l, 0 ≤ x) (i : Nat) : bitAt (2 * maskOf l + 1) i = if i = 0 then true else has l (i - 1) := by
  cases i with
  | zero => rw [bitAt_def]; simp
  | succ j =>
    simp only [Nat.add_one_ne_zero, if_false, Nat.add_one_sub_one]
    rw [← mask_bit l h0 j, bitAt, bitAt, Nat.testBit_succ]
    congr 1
    omega
/-- The number of the state behind a row. -/
theorem step_code {n : Nat} {bs : List Bool} {t : Bool} {l : List Int} (hb : bs.length = n) (h0 : ∀ x ∈ l, 0 ≤ x ∧ x < n) : stepC (codeOf bs t) l = codeOf (flipped bs l) (!t) := by
  apply nat_bits
  intro i
  have h1 := bit_code bs t i
  have h2 := bit_step l (fun x hx => (h0 x hx).1) i
  rw [bit_code, stepC, bitAt, Nat.testBit_xor]
  unfold bitAt at h1 h2
  rw [h1, h2]
  cases i with
  | zero => cases t <;> rfl
  | succ j =>
    simp only [Nat.add_one_ne_zero, if_false, Nat.add_one_sub_one]
    rw [flipped_len]
    by_cases hj : j < bs.length
    · rw [flipped_get _ _ hj]
      simp [hj]
    · have hn : has l j = false := by
        cases hh : has l j
        · rfl
        · have := (h0 _ (has_iff.1 hh)).2
          omega
      simp [hj, hn]

/-- Two rising lists of the same numbers are one list. -/
theorem rising_same : ∀ {a b : List Int}, a.Pairwise (· < ·) → b.Pairwise (· < ·) → (∀ x, x ∈ a ↔ x ∈ b) → a = b
  | [], [], _, _, _ => rfl
  | [], y :: ys, _, _, h => absurd ((h y).2 (by simp)) (by simp)
  | x :: xs, [], _, _, h => absurd ((h x).1 (by simp)) (by simp)
  | x :: xs, y :: ys, ha, hb, h => by
    obtain ⟨ha1, ha2⟩ := List.pairwise_cons.1 ha
    obtain ⟨hb1, hb2⟩ := List.pairwise_cons.1 hb
    have hxy : x = y := by
      rcases List.mem_cons.1 ((h x).1 (by simp)) with e | hx
      · exact e
      · rcases List.mem_cons.1 ((h y).2 (by simp)) with e | hy
        · exact e.symm
        · have h1 := hb1 _ hx
          have h2 := ha1 _ hy
          omega
    subst hxy
    rw [rising_same ha2 hb2 fun z => ⟨fun hz => ?_, fun hz => ?_⟩]
    · rcases List.mem_cons.1 ((h z).1 (List.mem_cons_of_mem _ hz)) with e | hz'
      · have := ha1 _ hz; omega
      · exact hz'
    · rcases List.mem_cons.1 ((h z).2 (List.mem_cons_of_mem _ hz)) with e | hz'
      · have := hb1 _ hz; omega
      · exact hz'
theorem mem_firsts {n : Nat} {x : Int} : x ∈ firsts n ↔ 0 ≤ x ∧ x < n := by
  constructor
  · intro h
    have := firsts_mem h
    omega
  · intro h
    exact List.mem_map.2 ⟨x.toNat, List.mem_range.2 (by omega), by simp; omega⟩
theorem steps_sub {n : Nat} {l : List Int} (hs : StepsTo l ((n : Int) - 1) l.length) : l.Sublist (firsts n) := by
  have hm : ∀ x, x ∈ l → x ∈ firsts n := fun x hx => mem_firsts.2 (by have := mem_steps hs hx; omega)
  have he : l = (firsts n).filter (fun x => decide (x ∈ l)) := rising_same (steps_pair hs) ((firsts_pair n).filter _) fun x => by
    rw [List.mem_filter, decide_eq_true_eq]
    exact ⟨fun h => ⟨hm x h, h⟩, fun h => h.2⟩
  rw [he]
  exact List.filter_sublist
/-- The rising lists of people of so many, so many at most. -/
theorem mem_up {n m : Nat} {l : List Int} : l ∈ upLists n m ↔ StepsTo l ((n : Int) - 1) l.length ∧ 1 ≤ l.length ∧ l.length ≤ m := by
  refine ⟨up_steps, fun ⟨h1, h2, h3⟩ => ?_⟩
  rw [upLists, subs_mem]
  exact ⟨l, rfl, by intro h; rw [h] at h2; simp at h2, steps_sub h1, h3⟩
theorem list_mask {l : List Int} (hs : StepsTo l 7 l.length) : listOf (maskOf l) = l := by
  have h8 : ∀ x ∈ l, 0 ≤ x ∧ x ≤ 7 := fun x hx => mem_steps hs hx
  refine rising_same ?_ (steps_pair hs) fun x => ?_
  · have h := (firsts_pair 8).sublist (l₁ := listOf (maskOf l)) (by unfold listOf listTo firsts; exact List.filter_sublist.map _)
    exact h
  · unfold listOf listTo
    rw [List.mem_map]
    constructor
    · rintro ⟨i, hi, rfl⟩
      rw [List.mem_filter, mask_bit l (fun x hx => (h8 x hx).1)] at hi
      exact has_iff.1 hi.2
    · intro hx
      have hb := h8 x hx
      refine ⟨x.toNat, List.mem_filter.2 ⟨List.mem_range.2 (by omega), ?_⟩, by simp; omega⟩
      rw [mask_bit l (fun x hx => (h8 x hx).1), has_iff]
      rw [Int.toNat_of_nonneg hb.1]
      exact hx
theorem bit_here {k : Nat} {bs : List Bool} {t : Bool} (hb : bs.length = 2 * k) (i : Nat) : bitAt (hereM k (codeOf bs t)) i = (decide (i < 2 * k) && (bs.getD i false == t)) := by
  have hm := bit_maskUp (fun i => bs.getD i false) bs.length
  have hlt := maskUp_lt (fun i => bs.getD i false) bs.length
  unfold hereM
  rw [code_half]
  cases t
  · rw [if_pos (by unfold codeOf; simp), ← hb, rest_bit hlt, hm]
    by_cases h : i < bs.length <;> simp [h]
  · rw [if_neg (by unfold codeOf; simp), hm, hb]
    by_cases h : i < 2 * k <;> simp [h]
theorem here_all {k : Nat} {bs : List Bool} {t : Bool} {l : List Int} (hb : bs.length = 2 * k) (h0 : ∀ x ∈ l, 0 ≤ x ∧ x < 2 * k) : decide (maskOf l &&& hereM k (codeOf bs t) = maskOf l) = allAt bs t l := by
  have hbit : ∀ i, bitAt (maskOf l &&& hereM k (codeOf bs t)) i = (has l i && (decide (i < 2 * k) && (bs.getD i false == t))) := fun i => by
    rw [← bit_here hb i, ← mask_bit l (fun x hx => (h0 x hx).1) i]
    exact Nat.testBit_and _ _ _
  have hml := mask_bit l (fun x hx => (h0 x hx).1)
  rw [Bool.eq_iff_iff, decide_eq_true_eq, allAt, List.all_eq_true]
  constructor
  · intro h x hx
    have hb0 := h0 x hx
    have h1 := hbit x.toNat
    rw [h, hml, has_iff.2 (by rw [Int.toNat_of_nonneg hb0.1]; exact hx)] at h1
    simp only [Bool.true_and] at h1
    exact (Bool.and_eq_true_iff.1 h1.symm).2
  · intro h
    refine nat_bits fun i => ?_
    rw [hbit, hml]
    cases hh : has l i
    · rfl
    · have hi := has_iff.1 hh
      have h1 := h _ hi
      have h2 := h0 _ hi
      simp only [Int.toNat_natCast] at h1
      rw [h1, Bool.true_and, Bool.and_true, decide_eq_true_eq]
      omega
/-- The model's rows and the program's are the same. -/
theorem trip_rows {k q : Nat} {bs : List Bool} {t : Bool} {l : List Int} (hk : k ≤ 4) (hb : bs.length = 2 * k) : tripM k q (codeOf bs t) l = decide (l ∈ rowsIn k q bs t) := by
  rw [Bool.eq_iff_iff, decide_eq_true_eq, rowsIn, rowsAmong, List.mem_filter, groupsOf, grpOf, List.mem_filter, mem_up]
  simp only [tripM, canM, Bool.and_eq_true, within_iff]
  constructor
  · rintro ⟨⟨h1, h2⟩, h3, h4, h5, h6, h7⟩
    have hst := rising_steps h3
    have hm : ∀ x ∈ l, 0 ≤ x ∧ x < 2 * k := fun x hx => by have := mem_steps hst hx; omega
    rw [here_all hb hm] at h4
    rw [calm_congr (g := has l) (fun i _ => mask_bit l (fun x hx => (hm x hx).1) i)] at h6
    have hs := step_code (t := t) hb (l := l) (fun x hx => by have := hm x hx; omega)
    rw [stepC] at hs
    rw [hs, quiet_code (by rw [flipped_len]; exact hb)] at h7
    exact ⟨⟨⟨by push_cast; exact hst, by omega, by omega⟩, h6⟩, h4, h7⟩
  · rintro ⟨⟨⟨hst, h1, h2⟩, h6⟩, h4, h7⟩
    have hm : ∀ x ∈ l, 0 ≤ x ∧ x < 2 * k := fun x hx => by have := mem_steps hst hx; omega
    rw [← here_all hb hm] at h4
    have hs := step_code (t := t) hb (l := l) (fun x hx => by have := hm x hx; omega)
    rw [stepC] at hs
    rw [hs, quiet_code (by rw [flipped_len]; exact hb)]
    rw [← calm_congr (f := bitAt (maskOf l)) (g := has l) (fun i _ => mask_bit l (fun x hx => (hm x hx).1) i)] at h6
    have h7' : StepsTo l 7 l.length := fun j hj => by
      have := hst j hj
      unfold Step at this ⊢
      omega
    refine ⟨⟨by omega, by omega⟩, rising_yes (by push_cast at hst; exact hst) (Nat.le_refl _), h4, ?_, h6, h7⟩
    rw [list_mask h7', decide_eq_true_eq]
    omega

/-- Are the lists rows, one after the other, told by places? -/
def playP (k q : Nat) : List Bool → Bool → List (List Int) → Bool
  | bs, t, [] => sameBits bs (trues (2 * k)) && t
  | bs, t, l :: ls => decide (l ∈ rowsIn k q bs t) && playP k q (flipped bs l) (!t) ls
theorem play_stop {k q : Nat} {bs : List Bool} {t : Bool} {ls : List (List Int)} {j : Nat} (hj : j < ls.length) (h : ls[j] ∉ rowsIn k q bs t) : playP k q bs t (ls.drop j) = false := by
  rw [List.drop_eq_getElem_cons hj, playP, decide_eq_false h]; rfl
theorem play_next {k q : Nat} {bs : List Bool} {t : Bool} {ls : List (List Int)} {j : Nat} (hj : j < ls.length) (h : ls[j] ∈ rowsIn k q bs t) : playP k q bs t (ls.drop j) = playP k q (flipped bs ls[j]) (!t) (ls.drop (j + 1)) := by
  rw [List.drop_eq_getElem_cons hj, playP, decide_eq_true h]; rfl
theorem rows_bound {k q : Nat} {bs : List Bool} {t : Bool} {l : List Int} (h : l ∈ rowsIn k q bs t) : ∀ x ∈ l, 0 ≤ x ∧ x < ((2 * k : Nat) : Int) := fun x hx => by
  have h1 := (mem_up.1 (groups_up (List.mem_filter.1 h).1)).1
  have := mem_steps h1 hx
  omega
theorem code_end {n : Nat} {bs : List Bool} {t : Bool} (hb : bs.length = n) : decide (codeOf bs t = 2 * 2 ^ n - 1) = (sameBits bs (trues n) && t) := by
  have hp : 1 ≤ 2 ^ n := Nat.one_le_two_pow
  have he : (2 : Nat) * 2 ^ n - 1 = 2 ^ (n + 1) - 1 := by rw [Nat.pow_succ]; omega
  rw [Bool.eq_iff_iff, decide_eq_true_eq, Bool.and_eq_true]
  constructor
  · intro h
    have hbit : ∀ i, bitAt (codeOf bs t) i = decide (i < n + 1) := fun i => by rw [h, he]; exact Nat.testBit_two_pow_sub_one ..
    have h0 := hbit 0
    rw [bit_code] at h0
    have ht : t = true := by simpa using h0
    refine ⟨sameBits_yes (List.ext_getElem (by rw [hb, trues_len]) fun i h1 h2 => ?_), ht⟩
    have h3 := hbit (i + 1)
    rw [bit_code] at h3
    simp only [Nat.add_one_ne_zero, if_false, Nat.add_one_sub_one] at h3
    have h4 : bs.getD i false = true := by
      have : decide (i + 1 < n + 1) = true := by simp; omega
      rw [this] at h3
      exact (Bool.and_eq_true_iff.1 h3).2
    rw [show bs[i] = bs.getD i false by simp [h1], h4]
    simp [trues]
  · rintro ⟨h, ht⟩
    have h : bs = trues n := by simpa [sameBits] using h
    refine nat_bits fun i => ?_
    rw [bit_code, he, h, ht, trues_len]
    cases i with
    | zero => rw [bitAt, Nat.testBit_two_pow_sub_one]; simp
    | succ j =>
      rw [bitAt, Nat.testBit_two_pow_sub_one]
      simp only [Nat.add_one_ne_zero, if_false, Nat.add_one_sub_one]
      by_cases hj : j < n <;> simp [hj, trues]
/-- Both tests of a plan tell the same. -/
theorem plan_play {k q : Nat} (hk : k ≤ 4) : ∀ (ls : List (List Int)) (bs : List Bool) (t : Bool), bs.length = 2 * k → planM k q (2 * 2 ^ (2 * k) - 1) (codeOf bs t) ls = playP k q bs t ls
  | [], bs, t, hb => by rw [planM, playP, code_end hb]
  | l :: ls, bs, t, hb => by
    rw [planM, playP, trip_rows hk hb]
    by_cases h : l ∈ rowsIn k q bs t
    · rw [step_code hb (rows_bound h), plan_play hk ls (flipped bs l) (!t) (by rw [flipped_len]; exact hb)]
    · rw [decide_eq_false h]; rfl
theorem code_first (n : Nat) : codeOf (falses n) false = 0 := by
  refine nat_bits fun i => ?_
  rw [bit_code, bitAt, Nat.zero_testBit]
  cases i <;> simp [falses, List.getElem?_replicate]
  split <;> (intro; rfl)
end Go.Proofs.Ytlpeimlbpiofkaa

namespace Go.Proofs.Ytlpeimlbpiofkaa
open Go.RowKit

set_option maxHeartbeats 800000 in
theorem loParty_any (A : Option Addr) (n c : Nat) (B : Option Addr) (m d : Nat) (s : Int) (w : World) :
    Calls Try.prog 132 #[.agg #[.slice A n c, .slice B m d, .int .i64 s]] w fun e w' => e = .returned (.agg #[.slice A n c, .int .i64 0]) ∧ Below w.heap.size w w' := by
  have h0 := (Whole.fresh w 57 #[.slice A n c, .slice B m d, .int .i64 s]).alloc (.cells #[.slice none 0 0, .int .i64 0] 28)
  have h1 := Whole.fresh (w.alloc (.cells #[.slice A n c, .slice B m d, .int .i64 s] 57)) 28 #[.slice none 0 0, .int .i64 0]
  rw [World.size_alloc] at h1
  have ht := below2 w (.cells #[.slice A n c, .slice B m d, .int .i64 s] 57) (.cells #[.slice none 0 0, .int .i64 0] 28)
  go_enter Try.func132, Try.ntmps132
  go_wp2
  refine bodyPost_ret (v := .agg #[.slice A n c, .int .i64 0]) (by simp [results, Try.results132, go_sem]) rfl ⟨rfl, ?_⟩
  first
    | exact below_set (below_set ht (by omega)) (by omega)
    | exact ht
    | exact below1 w _
    | exact below2 w _ _

/-- A crew and a state of it. -/
def crewState (xs : List Int) (m : Nat) (s : Int) (sb : List Bool) (t : Bool) : Bool := isCrew xs m s && isState xs.length sb t

/-- Is a list a ride in a state? -/
noncomputable def canRide (xs : List Int) (bs : List Bool) (s : Int) (sb : List Bool) (t : Bool) (l : List Int) : Bool := decide (l ≠ []) && (rising l ((xs.length : Int) - 1) && (decide (loadOf xs l ≤ s) && (allAt sb t l && canRow bs l)))
theorem ride_nil {xs : List Int} {bs : List Bool} {s : Int} {sb : List Bool} {t : Bool} : canRide xs bs s sb t [] = false := by simp [canRide]
theorem ride_fall {xs : List Int} {bs : List Bool} {s : Int} {sb : List Bool} {t : Bool} {l : List Int} (h : rising l ((xs.length : Int) - 1) = false) : canRide xs bs s sb t l = false := by simp [canRide, h]
theorem ride_load {xs : List Int} {bs : List Bool} {s : Int} {sb : List Bool} {t : Bool} {l : List Int} (h : s < loadOf xs l) : canRide xs bs s sb t l = false := by
  have h1 : decide (loadOf xs l ≤ s) = false := by simp; omega
  simp [canRide, h1]
theorem ride_at {xs : List Int} {bs : List Bool} {s : Int} {sb : List Bool} {t : Bool} {l : List Int} (h : allAt sb t l = false) : canRide xs bs s sb t l = false := by simp [canRide, h]
theorem ride_yes {xs : List Int} {bs : List Bool} {s : Int} {sb : List Bool} {t : Bool} {l : List Int} (h0 : l ≠ []) (h1 : rising l ((xs.length : Int) - 1) = true) (h2 : loadOf xs l ≤ s) (h3 : allAt sb t l = true) : canRide xs bs s sb t l = canRow bs l := by simp [canRide, h0, h1, h2, h3]
/-- The rides in a state, as both sides tell them. -/
theorem ride_mem {xs : List Int} {bs : List Bool} {s : Int} {sb : List Bool} {t : Bool} {l : List Int} : canRide xs bs s sb t l = true ↔ l ∈ (crewLists xs bs s).filter (fun l => allAt sb t l) := by
  simp only [crewLists, legsIn, List.mem_filter, legOk, canRide, Bool.and_eq_true, decide_eq_true_eq, mem_up]
  constructor
  · rintro ⟨h0, h1, h2, h3, h4⟩
    exact ⟨⟨⟨rising_steps h1, by have := List.length_pos_iff.2 h0; omega, rising_short h1⟩, h4, h2⟩, h3⟩
  · rintro ⟨⟨⟨h1, h2, h3⟩, h4, h5⟩, h6⟩
    exact ⟨fun e => by subst e; simp at h2, rising_yes h1 (Nat.le_refl _), h5, h6, h4⟩
/-- Some of the first k can row. -/
theorem canRow_next {bs : List Bool} {l : List Int} {k : Nat} (hk : k < l.length) : canRow bs (l.take (k + 1)) = (canRow bs (l.take k) || bs.getD (l[k]).toNat false) := by
  rw [List.take_succ_eq_append_getElem hk, canRow, List.any_append]; simp [canRow]

set_option maxHeartbeats 6400000 in
set_option maxRecDepth 100000 in
set_option linter.unusedSimpArgs false in
set_option linter.unusedVariables false in
theorem loCan_any (A : Option Addr) (n c : Nat) (B : Option Addr) (m d : Nat) (xs : List Int) (bs : List Bool) (s : Int) (D : Option Addr) (q z : Nat) (sb : List Bool) (t : Bool) (E : Option Addr) (r y : Nat) (l : List Int) (w : World) (hA : Holds w A (nums xs)) (hB : Holds w B (bits bs)) (hD : Holds w D (bits sb)) (hE : Holds w E (nums l)) (hx : xs.length = n) (hy : bs.length = m) (hqq : sb.length = q) (hl : l.length = r) (hr : r ≤ 9223372036854775807) (hcw : CrewOk xs m s) (hsl : sb.length = xs.length) :
    Calls Try.prog 148 #[.agg #[.slice A n c, .slice B m d, .int .i64 s], .agg #[.slice D q z, .bool t], .slice E r y] w fun e w' => e = .returned (.bool (canRide xs bs s sb t l)) ∧ Below w.heap.size w w' := by
  have hn7 : n ≤ 7 := by have := hcw.seven; omega
  have HX := Lib.hid hx
  have HQ := Lib.hid hqq
  have HL := Lib.hid hl
  have HY := Lib.hid hy
  have HW := Lib.hid hcw.weights
  have HR := Lib.hid hcw.rows
  have HSL := Lib.hid hsl
  have hnc : (n : Int) - 1 = (xs.length : Int) - 1 := by omega
  have hwr : IntKind.i64.wrap ((n : Int) - 1) = (n : Int) - 1 := IntWalk.i64_in _ (by omega)
  have hcr := (Whole.fresh w 57 #[.slice A n c, .slice B m d, .int .i64 s]).alloc (.cells #[.slice D q z, .bool t] 44)
  have hst := Whole.fresh (w.alloc (.cells #[.slice A n c, .slice B m d, .int .i64 s] 57)) 44 #[.slice D q z, .bool t]
  rw [World.size_alloc] at hst
  have ht := below2 w (.cells #[.slice A n c, .slice B m d, .int .i64 s] 57) (.cells #[.slice D q z, .bool t] 44)
  by_cases h0 : l = []
  · subst h0
    have hr0 : ((r : Int) == 0) = true := by simp at hl; simp [← hl]
    have HO := Lib.hid (ride_nil (xs := xs) (bs := bs) (s := s) (sb := sb) (t := t))
    clear hx hy hqq hl hsl hcw hnc
    go_enter Try.func148, Try.ntmps148
    go_wp2_with fail
    refine wp_region_held_drew (S := (fun w' => Box3 w.heap.size (.slice A n c) (.slice B m d) (.int .i64 s) w' ∧ Box1 (w.heap.size + 1) (.slice D q z) (.bool t) w')) (by kernel_rfl) ⟨box3_of hcr.drew, box1_of hst.drew⟩ (fun hHeld => ?_)
    replace hcr := hcr.drew
    replace hst := hst.drew
    replace ht := ht.drew
    generalize World.drew (World.alloc (World.alloc w (.cells #[.slice A n c, .slice B m d, .int .i64 s] 57)) (.cells #[.slice D q z, .bool t] 44)) = wd at hcr hst ht hHeld ⊢
    refine wpAnyH_take (i := 0) (v := ?_) rfl (by kernel_rfl) (by kernel_rfl) (by kernel_rfl) (fun _ _ _ h => h) (Or.inl ⟨rfl, ?_⟩) hHeld ?_
    rotate_left
    · intro w' hS; obtain ⟨⟨a0, a1, a2⟩, b0, b1⟩ := hS; go_simp <;> with_reducible rfl
    simp only [Act.put, List.getElem_toArray, List.getElem_cons_succ, List.getElem_cons_zero, List.setIfInBounds_toArray, List.set_cons_succ, List.set_cons_zero]
    refine wpAnyH_take (i := 1) (v := ?_) rfl (by kernel_rfl) (by kernel_rfl) (by kernel_rfl) (fun _ _ _ h => h) (Or.inl ⟨rfl, ?_⟩) hHeld ?_
    rotate_left
    · intro w' hS; obtain ⟨⟨a0, a1, a2⟩, b0, b1⟩ := hS; go_simp <;> with_reducible rfl
    simp only [Act.put, List.getElem_toArray, List.getElem_cons_succ, List.getElem_cons_zero, List.setIfInBounds_toArray, List.set_cons_succ, List.set_cons_zero]
    refine wpAnyH_take (i := 2) (v := ?_) rfl (by kernel_rfl) (by kernel_rfl) (by kernel_rfl) (fun _ _ _ h => h) (Or.inl ⟨rfl, ?_⟩) hHeld ?_
    rotate_left
    · intro w' hS; obtain ⟨⟨a0, a1, a2⟩, b0, b1⟩ := hS; go_simp <;> with_reducible rfl
    simp only [Act.put, List.getElem_toArray, List.getElem_cons_succ, List.getElem_cons_zero, List.setIfInBounds_toArray, List.set_cons_succ, List.set_cons_zero]
    refine wpAnyH_take (i := 3) (v := ?_) rfl (by kernel_rfl) (by kernel_rfl) (by kernel_rfl) (fun _ _ _ h => h) (Or.inl ⟨rfl, ?_⟩) hHeld ?_
    rotate_left
    · intro w' hS; obtain ⟨⟨a0, a1, a2⟩, b0, b1⟩ := hS; go_simp <;> with_reducible rfl
    simp only [Act.put, List.getElem_toArray, List.getElem_cons_succ, List.getElem_cons_zero, List.setIfInBounds_toArray, List.set_cons_succ, List.set_cons_zero]
    refine wpAnyH_take (i := 4) (v := undef) rfl (by kernel_rfl) (by kernel_rfl) (by kernel_rfl) (fun _ _ _ h => h) (Or.inr ⟨by simp [Region.wanted, yielded], rfl⟩) hHeld ?_
    simp only [Act.put, List.getElem_toArray, List.getElem_cons_succ, List.getElem_cons_zero, List.setIfInBounds_toArray, List.set_cons_succ, List.set_cons_zero]
    refine wpAnyH_take (i := 5) (v := undef) rfl (by kernel_rfl) (by kernel_rfl) (by kernel_rfl) (fun _ _ _ h => h) (Or.inr ⟨by simp [Region.wanted, yielded], rfl⟩) hHeld ?_
    simp only [Act.put, List.getElem_toArray, List.getElem_cons_succ, List.getElem_cons_zero, List.setIfInBounds_toArray, List.set_cons_succ, List.set_cons_zero]
    refine wpAnyH_take (i := 6) (v := undef) rfl (by kernel_rfl) (by kernel_rfl) (by kernel_rfl) (fun _ _ _ h => h) (Or.inr ⟨by simp [Region.wanted, yielded], rfl⟩) hHeld ?_
    simp only [Act.put, List.getElem_toArray, List.getElem_cons_succ, List.getElem_cons_zero, List.setIfInBounds_toArray, List.set_cons_succ, List.set_cons_zero]
    refine wpAnyH_take (i := 7) (v := undef) rfl (by kernel_rfl) (by kernel_rfl) (by kernel_rfl) (fun _ _ _ h => h) (Or.inr ⟨by simp [Region.wanted, yielded], rfl⟩) hHeld ?_
    simp only [Act.put, List.getElem_toArray, List.getElem_cons_succ, List.getElem_cons_zero, List.setIfInBounds_toArray, List.set_cons_succ, List.set_cons_zero]
    refine wpAnyH_take (i := 8) (v := undef) rfl (by kernel_rfl) (by kernel_rfl) (by kernel_rfl) (fun _ _ _ h => h) (Or.inr ⟨by simp [Region.wanted, yielded], rfl⟩) hHeld ?_
    simp only [Act.put, List.getElem_toArray, List.getElem_cons_succ, List.getElem_cons_zero, List.setIfInBounds_toArray, List.set_cons_succ, List.set_cons_zero]
    refine wpAnyH_take (i := 9) (v := undef) rfl (by kernel_rfl) (by kernel_rfl) (by kernel_rfl) (fun _ _ _ h => h) (Or.inr ⟨by simp [Region.wanted, yielded], rfl⟩) hHeld ?_
    simp only [Act.put, List.getElem_toArray, List.getElem_cons_succ, List.getElem_cons_zero, List.setIfInBounds_toArray, List.set_cons_succ, List.set_cons_zero]
    refine wpAnyH_take (i := 10) (v := undef) rfl (by kernel_rfl) (by kernel_rfl) (by kernel_rfl) (fun _ _ _ h => h) (Or.inr ⟨by simp [Region.wanted, yielded], rfl⟩) hHeld ?_
    simp only [Act.put, List.getElem_toArray, List.getElem_cons_succ, List.getElem_cons_zero, List.setIfInBounds_toArray, List.set_cons_succ, List.set_cons_zero]
    refine wpAnyH_take (i := 11) (v := ?_) rfl (by kernel_rfl) (by kernel_rfl) (by kernel_rfl) (fun _ _ _ h => h) (Or.inl ⟨rfl, ?_⟩) hHeld ?_
    rotate_left
    · intro w' hS; obtain ⟨⟨a0, a1, a2⟩, b0, b1⟩ := hS; go_simp <;> with_reducible rfl
    simp only [Act.put, List.getElem_toArray, List.getElem_cons_succ, List.getElem_cons_zero, List.setIfInBounds_toArray, List.set_cons_succ, List.set_cons_zero]
    refine wpAnyH_take (i := 12) (v := ?_) rfl (by kernel_rfl) (by kernel_rfl) (by kernel_rfl) (fun _ _ _ h => h) (Or.inl ⟨rfl, ?_⟩) hHeld ?_
    rotate_left
    · intro w' hS; obtain ⟨⟨a0, a1, a2⟩, b0, b1⟩ := hS; go_simp <;> with_reducible rfl
    simp only [Act.put, List.getElem_toArray, List.getElem_cons_succ, List.getElem_cons_zero, List.setIfInBounds_toArray, List.set_cons_succ, List.set_cons_zero]
    refine wpAnyH_take (i := 13) (v := undef) rfl (by kernel_rfl) (by kernel_rfl) (by kernel_rfl) (fun _ _ _ h => h) (Or.inr ⟨by simp [Region.wanted, yielded], rfl⟩) hHeld ?_
    simp only [Act.put, List.getElem_toArray, List.getElem_cons_succ, List.getElem_cons_zero, List.setIfInBounds_toArray, List.set_cons_succ, List.set_cons_zero]
    refine wpAnyH_take (i := 14) (v := undef) rfl (by kernel_rfl) (by kernel_rfl) (by kernel_rfl) (fun _ _ _ h => h) (Or.inr ⟨by simp [Region.wanted, yielded], rfl⟩) hHeld ?_
    simp only [Act.put, List.getElem_toArray, List.getElem_cons_succ, List.getElem_cons_zero, List.setIfInBounds_toArray, List.set_cons_succ, List.set_cons_zero]
    refine wpAnyH_take (i := 15) (v := undef) rfl (by kernel_rfl) (by kernel_rfl) (by kernel_rfl) (fun _ _ _ h => h) (Or.inr ⟨by simp [Region.wanted, yielded], rfl⟩) hHeld ?_
    simp only [Act.put, List.getElem_toArray, List.getElem_cons_succ, List.getElem_cons_zero, List.setIfInBounds_toArray, List.set_cons_succ, List.set_cons_zero]
    refine wpAnyH_take (i := 16) (v := undef) rfl (by kernel_rfl) (by kernel_rfl) (by kernel_rfl) (fun _ _ _ h => h) (Or.inr ⟨by simp [Region.wanted, yielded], rfl⟩) hHeld ?_
    simp only [Act.put, List.getElem_toArray, List.getElem_cons_succ, List.getElem_cons_zero, List.setIfInBounds_toArray, List.set_cons_succ, List.set_cons_zero]
    refine wpAnyH_take (i := 17) (v := undef) rfl (by kernel_rfl) (by kernel_rfl) (by kernel_rfl) (fun _ _ _ h => h) (Or.inr ⟨by simp [Region.wanted, yielded], rfl⟩) hHeld ?_
    simp only [Act.put, List.getElem_toArray, List.getElem_cons_succ, List.getElem_cons_zero, List.setIfInBounds_toArray, List.set_cons_succ, List.set_cons_zero]
    refine wpAnyH_take (i := 18) (v := undef) rfl (by kernel_rfl) (by kernel_rfl) (by kernel_rfl) (fun _ _ _ h => h) (Or.inr ⟨by simp [Region.wanted, yielded], rfl⟩) hHeld ?_
    simp only [Act.put, List.getElem_toArray, List.getElem_cons_succ, List.getElem_cons_zero, List.setIfInBounds_toArray, List.set_cons_succ, List.set_cons_zero]
    refine wpAnyH_take (i := 19) (v := ?_) rfl (by kernel_rfl) (by kernel_rfl) (by kernel_rfl) (fun _ _ _ h => h) (Or.inl ⟨rfl, ?_⟩) hHeld ?_
    rotate_left
    · intro w' hS; obtain ⟨⟨a0, a1, a2⟩, b0, b1⟩ := hS; go_simp <;> with_reducible rfl
    simp only [Act.put, List.getElem_toArray, List.getElem_cons_succ, List.getElem_cons_zero, List.setIfInBounds_toArray, List.set_cons_succ, List.set_cons_zero]
    refine wpAnyH_done (by kernel_rfl) ?_ _
    clear hHeld
    go_wp2
    go_ret
    exact ⟨ret_of (by rw [HO.out]; rfl), ht⟩
  have hr0 : ((r : Int) == 0) = false := by have := List.length_pos_iff.2 h0; simp; omega
  have H0 := Lib.hid h0
  clear h0
  cases hri : rising l ((n : Int) - 1)
  · have HO := Lib.hid (ride_fall (bs := bs) (s := s) (sb := sb) (t := t) (by rw [← hnc]; exact hri))
    have HRI := Lib.hid hri
    clear hx hy hqq hl hsl hcw hnc hri
    go_enter Try.func148, Try.ntmps148
    go_wp2_with fail
    refine wp_region_held_drew (S := (fun w' => Box3 w.heap.size (.slice A n c) (.slice B m d) (.int .i64 s) w' ∧ Box1 (w.heap.size + 1) (.slice D q z) (.bool t) w')) (by kernel_rfl) ⟨box3_of hcr.drew, box1_of hst.drew⟩ (fun hHeld => ?_)
    replace hcr := hcr.drew
    replace hst := hst.drew
    replace ht := ht.drew
    generalize World.drew (World.alloc (World.alloc w (.cells #[.slice A n c, .slice B m d, .int .i64 s] 57)) (.cells #[.slice D q z, .bool t] 44)) = wd at hcr hst ht hHeld ⊢
    refine wpAnyH_take (i := 0) (v := ?_) rfl (by kernel_rfl) (by kernel_rfl) (by kernel_rfl) (fun _ _ _ h => h) (Or.inl ⟨rfl, ?_⟩) hHeld ?_
    rotate_left
    · intro w' hS; obtain ⟨⟨a0, a1, a2⟩, b0, b1⟩ := hS; go_simp <;> with_reducible rfl
    simp only [Act.put, List.getElem_toArray, List.getElem_cons_succ, List.getElem_cons_zero, List.setIfInBounds_toArray, List.set_cons_succ, List.set_cons_zero]
    refine wpAnyH_take (i := 1) (v := ?_) rfl (by kernel_rfl) (by kernel_rfl) (by kernel_rfl) (fun _ _ _ h => h) (Or.inl ⟨rfl, ?_⟩) hHeld ?_
    rotate_left
    · intro w' hS; obtain ⟨⟨a0, a1, a2⟩, b0, b1⟩ := hS; go_simp <;> with_reducible rfl
    simp only [Act.put, List.getElem_toArray, List.getElem_cons_succ, List.getElem_cons_zero, List.setIfInBounds_toArray, List.set_cons_succ, List.set_cons_zero]
    refine wpAnyH_take (i := 2) (v := ?_) rfl (by kernel_rfl) (by kernel_rfl) (by kernel_rfl) (fun _ _ _ h => h) (Or.inl ⟨rfl, ?_⟩) hHeld ?_
    rotate_left
    · intro w' hS; obtain ⟨⟨a0, a1, a2⟩, b0, b1⟩ := hS; go_simp <;> with_reducible rfl
    simp only [Act.put, List.getElem_toArray, List.getElem_cons_succ, List.getElem_cons_zero, List.setIfInBounds_toArray, List.set_cons_succ, List.set_cons_zero]
    refine wpAnyH_take (i := 3) (v := ?_) rfl (by kernel_rfl) (by kernel_rfl) (by kernel_rfl) (fun _ _ _ h => h) (Or.inl ⟨rfl, ?_⟩) hHeld ?_
    rotate_left
    · intro w' hS; obtain ⟨⟨a0, a1, a2⟩, b0, b1⟩ := hS; go_simp <;> with_reducible rfl
    simp only [Act.put, List.getElem_toArray, List.getElem_cons_succ, List.getElem_cons_zero, List.setIfInBounds_toArray, List.set_cons_succ, List.set_cons_zero]
    refine wpAnyH_take (i := 4) (v := ?_) rfl (by kernel_rfl) (by kernel_rfl) (by kernel_rfl) (fun _ _ _ h => h) (Or.inl ⟨rfl, ?_⟩) hHeld ?_
    rotate_left
    · intro w' hS; obtain ⟨⟨a0, a1, a2⟩, b0, b1⟩ := hS; go_simp <;> with_reducible rfl
    simp only [Act.put, List.getElem_toArray, List.getElem_cons_succ, List.getElem_cons_zero, List.setIfInBounds_toArray, List.set_cons_succ, List.set_cons_zero]
    refine wpAnyH_take (i := 5) (v := ?_) rfl (by kernel_rfl) (by kernel_rfl) (by kernel_rfl) (fun _ _ _ h => h) (Or.inl ⟨rfl, ?_⟩) hHeld ?_
    rotate_left
    · intro w' hS; obtain ⟨⟨a0, a1, a2⟩, b0, b1⟩ := hS; go_simp <;> with_reducible rfl
    simp only [Act.put, List.getElem_toArray, List.getElem_cons_succ, List.getElem_cons_zero, List.setIfInBounds_toArray, List.set_cons_succ, List.set_cons_zero]
    refine wpAnyH_take (i := 6) (v := ?_) rfl (by kernel_rfl) (by kernel_rfl) (by kernel_rfl) (fun _ _ _ h => h) (Or.inl ⟨rfl, ?_⟩) hHeld ?_
    rotate_left
    · intro w' hS; obtain ⟨⟨a0, a1, a2⟩, b0, b1⟩ := hS; go_simp <;> with_reducible rfl
    simp only [Act.put, List.getElem_toArray, List.getElem_cons_succ, List.getElem_cons_zero, List.setIfInBounds_toArray, List.set_cons_succ, List.set_cons_zero]
    refine wpAnyH_take (i := 7) (v := ?_) rfl (by kernel_rfl) (by kernel_rfl) (by kernel_rfl) (fun _ _ _ h => h) (Or.inl ⟨rfl, ?_⟩) hHeld ?_
    rotate_left
    · intro w' hS; obtain ⟨⟨a0, a1, a2⟩, b0, b1⟩ := hS; go_simp <;> with_reducible rfl
    simp only [Act.put, List.getElem_toArray, List.getElem_cons_succ, List.getElem_cons_zero, List.setIfInBounds_toArray, List.set_cons_succ, List.set_cons_zero]
    refine wpAnyH_take (i := 8) (v := ?_) rfl (by kernel_rfl) (by kernel_rfl) (by kernel_rfl) (fun _ _ _ h => h) (Or.inl ⟨rfl, ?_⟩) hHeld ?_
    rotate_left
    · intro w' hS; obtain ⟨⟨a0, a1, a2⟩, b0, b1⟩ := hS; go_simp <;> with_reducible rfl
    simp only [Act.put, List.getElem_toArray, List.getElem_cons_succ, List.getElem_cons_zero, List.setIfInBounds_toArray, List.set_cons_succ, List.set_cons_zero]
    refine wpAnyH_ready (rs := [9]) (by kernel_rfl) (by simp) (AllReadyH.cons rfl (fun K hK => ?_) AllReadyH.nil)
    go_simp
    refine (l1Rising_any E r y l _ _ (by exact hE.below ht) HL.out hr).mono ?_
    rintro e wx ⟨rfl, rfl⟩
    rw [HRI.out]
    refine hK.out _ _ ⟨box3_of hcr, box1_of hst⟩ (fun hHeld => ?_)
    clear hK K
    try simp only [Act.put, List.getElem_toArray, List.getElem_cons_succ, List.getElem_cons_zero, List.setIfInBounds_toArray, List.set_cons_succ, List.set_cons_zero]
    refine wpAnyH_take (i := 10) (v := ?_) rfl (by kernel_rfl) (by kernel_rfl) (by kernel_rfl) (fun _ _ _ h => h) (Or.inl ⟨rfl, ?_⟩) hHeld ?_
    rotate_left
    · intro w' hS; obtain ⟨⟨a0, a1, a2⟩, b0, b1⟩ := hS; go_simp <;> with_reducible rfl
    simp only [Act.put, List.getElem_toArray, List.getElem_cons_succ, List.getElem_cons_zero, List.setIfInBounds_toArray, List.set_cons_succ, List.set_cons_zero]
    refine wpAnyH_take (i := 11) (v := ?_) rfl (by kernel_rfl) (by kernel_rfl) (by kernel_rfl) (fun _ _ _ h => h) (Or.inl ⟨rfl, ?_⟩) hHeld ?_
    rotate_left
    · intro w' hS; obtain ⟨⟨a0, a1, a2⟩, b0, b1⟩ := hS; go_simp <;> with_reducible rfl
    simp only [Act.put, List.getElem_toArray, List.getElem_cons_succ, List.getElem_cons_zero, List.setIfInBounds_toArray, List.set_cons_succ, List.set_cons_zero]
    refine wpAnyH_take (i := 12) (v := ?_) rfl (by kernel_rfl) (by kernel_rfl) (by kernel_rfl) (fun _ _ _ h => h) (Or.inl ⟨rfl, ?_⟩) hHeld ?_
    rotate_left
    · intro w' hS; obtain ⟨⟨a0, a1, a2⟩, b0, b1⟩ := hS; go_simp <;> with_reducible rfl
    simp only [Act.put, List.getElem_toArray, List.getElem_cons_succ, List.getElem_cons_zero, List.setIfInBounds_toArray, List.set_cons_succ, List.set_cons_zero]
    refine wpAnyH_take (i := 13) (v := undef) rfl (by kernel_rfl) (by kernel_rfl) (by kernel_rfl) (fun _ _ _ h => h) (Or.inr ⟨by simp [Region.wanted, yielded], rfl⟩) hHeld ?_
    simp only [Act.put, List.getElem_toArray, List.getElem_cons_succ, List.getElem_cons_zero, List.setIfInBounds_toArray, List.set_cons_succ, List.set_cons_zero]
    refine wpAnyH_take (i := 14) (v := undef) rfl (by kernel_rfl) (by kernel_rfl) (by kernel_rfl) (fun _ _ _ h => h) (Or.inr ⟨by simp [Region.wanted, yielded], rfl⟩) hHeld ?_
    simp only [Act.put, List.getElem_toArray, List.getElem_cons_succ, List.getElem_cons_zero, List.setIfInBounds_toArray, List.set_cons_succ, List.set_cons_zero]
    refine wpAnyH_take (i := 15) (v := undef) rfl (by kernel_rfl) (by kernel_rfl) (by kernel_rfl) (fun _ _ _ h => h) (Or.inr ⟨by simp [Region.wanted, yielded], rfl⟩) hHeld ?_
    simp only [Act.put, List.getElem_toArray, List.getElem_cons_succ, List.getElem_cons_zero, List.setIfInBounds_toArray, List.set_cons_succ, List.set_cons_zero]
    refine wpAnyH_take (i := 16) (v := undef) rfl (by kernel_rfl) (by kernel_rfl) (by kernel_rfl) (fun _ _ _ h => h) (Or.inr ⟨by simp [Region.wanted, yielded], rfl⟩) hHeld ?_
    simp only [Act.put, List.getElem_toArray, List.getElem_cons_succ, List.getElem_cons_zero, List.setIfInBounds_toArray, List.set_cons_succ, List.set_cons_zero]
    refine wpAnyH_take (i := 17) (v := undef) rfl (by kernel_rfl) (by kernel_rfl) (by kernel_rfl) (fun _ _ _ h => h) (Or.inr ⟨by simp [Region.wanted, yielded], rfl⟩) hHeld ?_
    simp only [Act.put, List.getElem_toArray, List.getElem_cons_succ, List.getElem_cons_zero, List.setIfInBounds_toArray, List.set_cons_succ, List.set_cons_zero]
    refine wpAnyH_take (i := 18) (v := undef) rfl (by kernel_rfl) (by kernel_rfl) (by kernel_rfl) (fun _ _ _ h => h) (Or.inr ⟨by simp [Region.wanted, yielded], rfl⟩) hHeld ?_
    simp only [Act.put, List.getElem_toArray, List.getElem_cons_succ, List.getElem_cons_zero, List.setIfInBounds_toArray, List.set_cons_succ, List.set_cons_zero]
    refine wpAnyH_take (i := 19) (v := ?_) rfl (by kernel_rfl) (by kernel_rfl) (by kernel_rfl) (fun _ _ _ h => h) (Or.inl ⟨rfl, ?_⟩) hHeld ?_
    rotate_left
    · intro w' hS; obtain ⟨⟨a0, a1, a2⟩, b0, b1⟩ := hS; go_simp <;> with_reducible rfl
    simp only [Act.put, List.getElem_toArray, List.getElem_cons_succ, List.getElem_cons_zero, List.setIfInBounds_toArray, List.set_cons_succ, List.set_cons_zero]
    refine wpAnyH_done (by kernel_rfl) ?_ _
    clear hHeld
    go_wp2
    go_ret
    exact ⟨ret_of (by rw [HO.out]; rfl), ht⟩
  have HRI := Lib.hid hri
  have HRX : Hid (rising l ((xs.length : Int) - 1) = true) := by show _ = _; rw [← hnc]; exact hri
  have HIN : Hid (∀ y ∈ l, 0 ≤ y ∧ y < n) := fun y hy => rising_in hri y hy
  have hr8 : r ≤ 8 := by have := rising_short hri; omega
  have hbd := loadOf_bound HW.out l
  obtain ⟨Wt, hWt⟩ : ∃ Wt, Wt = loadOf xs l := ⟨_, rfl⟩
  have HWT := Lib.hid hWt
  rw [← hWt] at hbd
  have hsm : 0 ≤ s ∧ s ≤ 4000 := hcw.most
  clear hri hx hy hqq hl hsl hcw hnc
  by_cases hle : s < Wt
  · have HO := Lib.hid (ride_load (bs := bs) (sb := sb) (t := t) (by rw [← hWt]; exact hle))
    have hd : decide (Wt > s) = true := by simp; omega
    clear hWt
    go_enter Try.func148, Try.ntmps148
    go_wp2_with fail
    refine wp_region_held_drew (S := (fun w' => Box3 w.heap.size (.slice A n c) (.slice B m d) (.int .i64 s) w' ∧ Box1 (w.heap.size + 1) (.slice D q z) (.bool t) w')) (by kernel_rfl) ⟨box3_of hcr.drew, box1_of hst.drew⟩ (fun hHeld => ?_)
    replace hcr := hcr.drew
    replace hst := hst.drew
    replace ht := ht.drew
    generalize World.drew (World.alloc (World.alloc w (.cells #[.slice A n c, .slice B m d, .int .i64 s] 57)) (.cells #[.slice D q z, .bool t] 44)) = wd at hcr hst ht hHeld ⊢
    refine wpAnyH_take (i := 0) (v := ?_) rfl (by kernel_rfl) (by kernel_rfl) (by kernel_rfl) (fun _ _ _ h => h) (Or.inl ⟨rfl, ?_⟩) hHeld ?_
    rotate_left
    · intro w' hS; obtain ⟨⟨a0, a1, a2⟩, b0, b1⟩ := hS; go_simp <;> with_reducible rfl
    simp only [Act.put, List.getElem_toArray, List.getElem_cons_succ, List.getElem_cons_zero, List.setIfInBounds_toArray, List.set_cons_succ, List.set_cons_zero]
    refine wpAnyH_take (i := 1) (v := ?_) rfl (by kernel_rfl) (by kernel_rfl) (by kernel_rfl) (fun _ _ _ h => h) (Or.inl ⟨rfl, ?_⟩) hHeld ?_
    rotate_left
    · intro w' hS; obtain ⟨⟨a0, a1, a2⟩, b0, b1⟩ := hS; go_simp <;> with_reducible rfl
    simp only [Act.put, List.getElem_toArray, List.getElem_cons_succ, List.getElem_cons_zero, List.setIfInBounds_toArray, List.set_cons_succ, List.set_cons_zero]
    refine wpAnyH_take (i := 2) (v := ?_) rfl (by kernel_rfl) (by kernel_rfl) (by kernel_rfl) (fun _ _ _ h => h) (Or.inl ⟨rfl, ?_⟩) hHeld ?_
    rotate_left
    · intro w' hS; obtain ⟨⟨a0, a1, a2⟩, b0, b1⟩ := hS; go_simp <;> with_reducible rfl
    simp only [Act.put, List.getElem_toArray, List.getElem_cons_succ, List.getElem_cons_zero, List.setIfInBounds_toArray, List.set_cons_succ, List.set_cons_zero]
    refine wpAnyH_take (i := 3) (v := ?_) rfl (by kernel_rfl) (by kernel_rfl) (by kernel_rfl) (fun _ _ _ h => h) (Or.inl ⟨rfl, ?_⟩) hHeld ?_
    rotate_left
    · intro w' hS; obtain ⟨⟨a0, a1, a2⟩, b0, b1⟩ := hS; go_simp <;> with_reducible rfl
    simp only [Act.put, List.getElem_toArray, List.getElem_cons_succ, List.getElem_cons_zero, List.setIfInBounds_toArray, List.set_cons_succ, List.set_cons_zero]
    refine wpAnyH_take (i := 4) (v := ?_) rfl (by kernel_rfl) (by kernel_rfl) (by kernel_rfl) (fun _ _ _ h => h) (Or.inl ⟨rfl, ?_⟩) hHeld ?_
    rotate_left
    · intro w' hS; obtain ⟨⟨a0, a1, a2⟩, b0, b1⟩ := hS; go_simp <;> with_reducible rfl
    simp only [Act.put, List.getElem_toArray, List.getElem_cons_succ, List.getElem_cons_zero, List.setIfInBounds_toArray, List.set_cons_succ, List.set_cons_zero]
    refine wpAnyH_take (i := 5) (v := ?_) rfl (by kernel_rfl) (by kernel_rfl) (by kernel_rfl) (fun _ _ _ h => h) (Or.inl ⟨rfl, ?_⟩) hHeld ?_
    rotate_left
    · intro w' hS; obtain ⟨⟨a0, a1, a2⟩, b0, b1⟩ := hS; go_simp <;> with_reducible rfl
    simp only [Act.put, List.getElem_toArray, List.getElem_cons_succ, List.getElem_cons_zero, List.setIfInBounds_toArray, List.set_cons_succ, List.set_cons_zero]
    refine wpAnyH_take (i := 6) (v := ?_) rfl (by kernel_rfl) (by kernel_rfl) (by kernel_rfl) (fun _ _ _ h => h) (Or.inl ⟨rfl, ?_⟩) hHeld ?_
    rotate_left
    · intro w' hS; obtain ⟨⟨a0, a1, a2⟩, b0, b1⟩ := hS; go_simp <;> with_reducible rfl
    simp only [Act.put, List.getElem_toArray, List.getElem_cons_succ, List.getElem_cons_zero, List.setIfInBounds_toArray, List.set_cons_succ, List.set_cons_zero]
    refine wpAnyH_take (i := 7) (v := ?_) rfl (by kernel_rfl) (by kernel_rfl) (by kernel_rfl) (fun _ _ _ h => h) (Or.inl ⟨rfl, ?_⟩) hHeld ?_
    rotate_left
    · intro w' hS; obtain ⟨⟨a0, a1, a2⟩, b0, b1⟩ := hS; go_simp <;> with_reducible rfl
    simp only [Act.put, List.getElem_toArray, List.getElem_cons_succ, List.getElem_cons_zero, List.setIfInBounds_toArray, List.set_cons_succ, List.set_cons_zero]
    refine wpAnyH_take (i := 8) (v := ?_) rfl (by kernel_rfl) (by kernel_rfl) (by kernel_rfl) (fun _ _ _ h => h) (Or.inl ⟨rfl, ?_⟩) hHeld ?_
    rotate_left
    · intro w' hS; obtain ⟨⟨a0, a1, a2⟩, b0, b1⟩ := hS; go_simp <;> with_reducible rfl
    simp only [Act.put, List.getElem_toArray, List.getElem_cons_succ, List.getElem_cons_zero, List.setIfInBounds_toArray, List.set_cons_succ, List.set_cons_zero]
    refine wpAnyH_ready (rs := [9]) (by kernel_rfl) (by simp) (AllReadyH.cons rfl (fun K hK => ?_) AllReadyH.nil)
    go_simp
    refine (l1Rising_any E r y l _ _ (by exact hE.below ht) HL.out hr).mono ?_
    rintro e wx ⟨rfl, rfl⟩
    rw [HRI.out]
    refine hK.out _ _ ⟨box3_of hcr, box1_of hst⟩ (fun hHeld => ?_)
    clear hK K
    try simp only [Act.put, List.getElem_toArray, List.getElem_cons_succ, List.getElem_cons_zero, List.setIfInBounds_toArray, List.set_cons_succ, List.set_cons_zero]
    refine wpAnyH_take (i := 10) (v := ?_) rfl (by kernel_rfl) (by kernel_rfl) (by kernel_rfl) (fun _ _ _ h => h) (Or.inl ⟨rfl, ?_⟩) hHeld ?_
    rotate_left
    · intro w' hS; obtain ⟨⟨a0, a1, a2⟩, b0, b1⟩ := hS; go_simp <;> with_reducible rfl
    simp only [Act.put, List.getElem_toArray, List.getElem_cons_succ, List.getElem_cons_zero, List.setIfInBounds_toArray, List.set_cons_succ, List.set_cons_zero]
    refine wpAnyH_take (i := 11) (v := ?_) rfl (by kernel_rfl) (by kernel_rfl) (by kernel_rfl) (fun _ _ _ h => h) (Or.inl ⟨rfl, ?_⟩) hHeld ?_
    rotate_left
    · intro w' hS; obtain ⟨⟨a0, a1, a2⟩, b0, b1⟩ := hS; go_simp <;> with_reducible rfl
    simp only [Act.put, List.getElem_toArray, List.getElem_cons_succ, List.getElem_cons_zero, List.setIfInBounds_toArray, List.set_cons_succ, List.set_cons_zero]
    refine wpAnyH_take (i := 12) (v := ?_) rfl (by kernel_rfl) (by kernel_rfl) (by kernel_rfl) (fun _ _ _ h => h) (Or.inl ⟨rfl, ?_⟩) hHeld ?_
    rotate_left
    · intro w' hS; obtain ⟨⟨a0, a1, a2⟩, b0, b1⟩ := hS; go_simp <;> with_reducible rfl
    simp only [Act.put, List.getElem_toArray, List.getElem_cons_succ, List.getElem_cons_zero, List.setIfInBounds_toArray, List.set_cons_succ, List.set_cons_zero]
    refine wpAnyH_take (i := 13) (v := ?_) rfl (by kernel_rfl) (by kernel_rfl) (by kernel_rfl) (fun _ _ _ h => h) (Or.inl ⟨rfl, ?_⟩) hHeld ?_
    rotate_left
    · intro w' hS; obtain ⟨⟨a0, a1, a2⟩, b0, b1⟩ := hS; go_simp <;> with_reducible rfl
    simp only [Act.put, List.getElem_toArray, List.getElem_cons_succ, List.getElem_cons_zero, List.setIfInBounds_toArray, List.set_cons_succ, List.set_cons_zero]
    refine wpAnyH_take (i := 14) (v := ?_) rfl (by kernel_rfl) (by kernel_rfl) (by kernel_rfl) (fun _ _ _ h => h) (Or.inl ⟨rfl, ?_⟩) hHeld ?_
    rotate_left
    · intro w' hS; obtain ⟨⟨a0, a1, a2⟩, b0, b1⟩ := hS; go_simp <;> with_reducible rfl
    simp only [Act.put, List.getElem_toArray, List.getElem_cons_succ, List.getElem_cons_zero, List.setIfInBounds_toArray, List.set_cons_succ, List.set_cons_zero]
    refine wpAnyH_take (i := 16) (v := ?_) rfl (by kernel_rfl) (by kernel_rfl) (by kernel_rfl) (fun _ _ _ h => h) (Or.inl ⟨rfl, ?_⟩) hHeld ?_
    rotate_left
    · intro w' hS; obtain ⟨⟨a0, a1, a2⟩, b0, b1⟩ := hS; go_simp <;> with_reducible rfl
    simp only [Act.put, List.getElem_toArray, List.getElem_cons_succ, List.getElem_cons_zero, List.setIfInBounds_toArray, List.set_cons_succ, List.set_cons_zero]
    refine wpAnyH_take (i := 17) (v := ?_) rfl (by kernel_rfl) (by kernel_rfl) (by kernel_rfl) (fun _ _ _ h => h) (Or.inl ⟨rfl, ?_⟩) hHeld ?_
    rotate_left
    · intro w' hS; obtain ⟨⟨a0, a1, a2⟩, b0, b1⟩ := hS; go_simp <;> with_reducible rfl
    simp only [Act.put, List.getElem_toArray, List.getElem_cons_succ, List.getElem_cons_zero, List.setIfInBounds_toArray, List.set_cons_succ, List.set_cons_zero]
    refine wpAnyH_ready (rs := [15]) (by kernel_rfl) (by simp) (AllReadyH.cons rfl (fun K hK => ?_) AllReadyH.nil)
    go_simp
    refine (loLoad_any A n c B m d xs s E r y l _ (by exact hA.below ht) (by exact hE.below ht) HX.out HL.out hn7 hr HW.out HIN.out hr8).mono ?_
    rintro e wx ⟨rfl, hb⟩
    replace hcr := hcr.below hb
    replace hst := hst.below hb
    replace ht := below_then ht hb ht.size
    clear hb
    refine hK.out _ _ ⟨box3_of hcr, box1_of hst⟩ (fun hHeld => ?_)
    clear hK K
    try simp only [Act.put, List.getElem_toArray, List.getElem_cons_succ, List.getElem_cons_zero, List.setIfInBounds_toArray, List.set_cons_succ, List.set_cons_zero]
    refine wpAnyH_take (i := 18) (v := ?_) rfl (by kernel_rfl) (by kernel_rfl) (by kernel_rfl) (fun _ _ _ h => h) (Or.inl ⟨rfl, ?_⟩) hHeld ?_
    rotate_left
    · intro w' hS; obtain ⟨⟨a0, a1, a2⟩, b0, b1⟩ := hS; go_simp <;> with_reducible rfl
    simp only [Act.put, List.getElem_toArray, List.getElem_cons_succ, List.getElem_cons_zero, List.setIfInBounds_toArray, List.set_cons_succ, List.set_cons_zero]
    refine wpAnyH_take (i := 19) (v := ?_) rfl (by kernel_rfl) (by kernel_rfl) (by kernel_rfl) (fun _ _ _ h => h) (Or.inl ⟨rfl, ?_⟩) hHeld ?_
    rotate_left
    · intro w' hS; obtain ⟨⟨a0, a1, a2⟩, b0, b1⟩ := hS; go_simp <;> with_reducible rfl
    simp only [Act.put, List.getElem_toArray, List.getElem_cons_succ, List.getElem_cons_zero, List.setIfInBounds_toArray, List.set_cons_succ, List.set_cons_zero]
    refine wpAnyH_done (by kernel_rfl) ?_ _
    clear hHeld
    rw [← HWT.out]
    go_wp2
    go_ret
    exact ⟨ret_of (by rw [HO.out]; rfl), ht⟩
  have hd : decide (Wt > s) = false := by simp; omega
  have HLE := Lib.hid (show loadOf xs l ≤ s by rw [← hWt]; omega)
  clear hWt hd
  have hd : decide (s < Wt) = false := by simpa using hle
  go_enter Try.func148, Try.ntmps148
  go_wp2_with fail
  refine wp_region_held_drew (S := (fun w' => Box3 w.heap.size (.slice A n c) (.slice B m d) (.int .i64 s) w' ∧ Box1 (w.heap.size + 1) (.slice D q z) (.bool t) w')) (by kernel_rfl) ⟨box3_of hcr.drew, box1_of hst.drew⟩ (fun hHeld => ?_)
  replace hcr := hcr.drew
  replace hst := hst.drew
  replace ht := ht.drew
  generalize World.drew (World.alloc (World.alloc w (.cells #[.slice A n c, .slice B m d, .int .i64 s] 57)) (.cells #[.slice D q z, .bool t] 44)) = wd at hcr hst ht hHeld ⊢
  refine wpAnyH_take (i := 0) (v := ?_) rfl (by kernel_rfl) (by kernel_rfl) (by kernel_rfl) (fun _ _ _ h => h) (Or.inl ⟨rfl, ?_⟩) hHeld ?_
  rotate_left
  · intro w' hS; obtain ⟨⟨a0, a1, a2⟩, b0, b1⟩ := hS; go_simp <;> with_reducible rfl
  simp only [Act.put, List.getElem_toArray, List.getElem_cons_succ, List.getElem_cons_zero, List.setIfInBounds_toArray, List.set_cons_succ, List.set_cons_zero]
  refine wpAnyH_take (i := 1) (v := ?_) rfl (by kernel_rfl) (by kernel_rfl) (by kernel_rfl) (fun _ _ _ h => h) (Or.inl ⟨rfl, ?_⟩) hHeld ?_
  rotate_left
  · intro w' hS; obtain ⟨⟨a0, a1, a2⟩, b0, b1⟩ := hS; go_simp <;> with_reducible rfl
  simp only [Act.put, List.getElem_toArray, List.getElem_cons_succ, List.getElem_cons_zero, List.setIfInBounds_toArray, List.set_cons_succ, List.set_cons_zero]
  refine wpAnyH_take (i := 2) (v := ?_) rfl (by kernel_rfl) (by kernel_rfl) (by kernel_rfl) (fun _ _ _ h => h) (Or.inl ⟨rfl, ?_⟩) hHeld ?_
  rotate_left
  · intro w' hS; obtain ⟨⟨a0, a1, a2⟩, b0, b1⟩ := hS; go_simp <;> with_reducible rfl
  simp only [Act.put, List.getElem_toArray, List.getElem_cons_succ, List.getElem_cons_zero, List.setIfInBounds_toArray, List.set_cons_succ, List.set_cons_zero]
  refine wpAnyH_take (i := 3) (v := ?_) rfl (by kernel_rfl) (by kernel_rfl) (by kernel_rfl) (fun _ _ _ h => h) (Or.inl ⟨rfl, ?_⟩) hHeld ?_
  rotate_left
  · intro w' hS; obtain ⟨⟨a0, a1, a2⟩, b0, b1⟩ := hS; go_simp <;> with_reducible rfl
  simp only [Act.put, List.getElem_toArray, List.getElem_cons_succ, List.getElem_cons_zero, List.setIfInBounds_toArray, List.set_cons_succ, List.set_cons_zero]
  refine wpAnyH_take (i := 4) (v := ?_) rfl (by kernel_rfl) (by kernel_rfl) (by kernel_rfl) (fun _ _ _ h => h) (Or.inl ⟨rfl, ?_⟩) hHeld ?_
  rotate_left
  · intro w' hS; obtain ⟨⟨a0, a1, a2⟩, b0, b1⟩ := hS; go_simp <;> with_reducible rfl
  simp only [Act.put, List.getElem_toArray, List.getElem_cons_succ, List.getElem_cons_zero, List.setIfInBounds_toArray, List.set_cons_succ, List.set_cons_zero]
  refine wpAnyH_take (i := 5) (v := ?_) rfl (by kernel_rfl) (by kernel_rfl) (by kernel_rfl) (fun _ _ _ h => h) (Or.inl ⟨rfl, ?_⟩) hHeld ?_
  rotate_left
  · intro w' hS; obtain ⟨⟨a0, a1, a2⟩, b0, b1⟩ := hS; go_simp <;> with_reducible rfl
  simp only [Act.put, List.getElem_toArray, List.getElem_cons_succ, List.getElem_cons_zero, List.setIfInBounds_toArray, List.set_cons_succ, List.set_cons_zero]
  refine wpAnyH_take (i := 6) (v := ?_) rfl (by kernel_rfl) (by kernel_rfl) (by kernel_rfl) (fun _ _ _ h => h) (Or.inl ⟨rfl, ?_⟩) hHeld ?_
  rotate_left
  · intro w' hS; obtain ⟨⟨a0, a1, a2⟩, b0, b1⟩ := hS; go_simp <;> with_reducible rfl
  simp only [Act.put, List.getElem_toArray, List.getElem_cons_succ, List.getElem_cons_zero, List.setIfInBounds_toArray, List.set_cons_succ, List.set_cons_zero]
  refine wpAnyH_take (i := 7) (v := ?_) rfl (by kernel_rfl) (by kernel_rfl) (by kernel_rfl) (fun _ _ _ h => h) (Or.inl ⟨rfl, ?_⟩) hHeld ?_
  rotate_left
  · intro w' hS; obtain ⟨⟨a0, a1, a2⟩, b0, b1⟩ := hS; go_simp <;> with_reducible rfl
  simp only [Act.put, List.getElem_toArray, List.getElem_cons_succ, List.getElem_cons_zero, List.setIfInBounds_toArray, List.set_cons_succ, List.set_cons_zero]
  refine wpAnyH_take (i := 8) (v := ?_) rfl (by kernel_rfl) (by kernel_rfl) (by kernel_rfl) (fun _ _ _ h => h) (Or.inl ⟨rfl, ?_⟩) hHeld ?_
  rotate_left
  · intro w' hS; obtain ⟨⟨a0, a1, a2⟩, b0, b1⟩ := hS; go_simp <;> with_reducible rfl
  simp only [Act.put, List.getElem_toArray, List.getElem_cons_succ, List.getElem_cons_zero, List.setIfInBounds_toArray, List.set_cons_succ, List.set_cons_zero]
  refine wpAnyH_ready (rs := [9]) (by kernel_rfl) (by simp) (AllReadyH.cons rfl (fun K hK => ?_) AllReadyH.nil)
  go_simp
  refine (l1Rising_any E r y l _ _ (by exact hE.below ht) HL.out hr).mono ?_
  rintro e wx ⟨rfl, rfl⟩
  rw [HRI.out]
  refine hK.out _ _ ⟨box3_of hcr, box1_of hst⟩ (fun hHeld => ?_)
  clear hK K
  try simp only [Act.put, List.getElem_toArray, List.getElem_cons_succ, List.getElem_cons_zero, List.setIfInBounds_toArray, List.set_cons_succ, List.set_cons_zero]
  refine wpAnyH_take (i := 10) (v := ?_) rfl (by kernel_rfl) (by kernel_rfl) (by kernel_rfl) (fun _ _ _ h => h) (Or.inl ⟨rfl, ?_⟩) hHeld ?_
  rotate_left
  · intro w' hS; obtain ⟨⟨a0, a1, a2⟩, b0, b1⟩ := hS; go_simp <;> with_reducible rfl
  simp only [Act.put, List.getElem_toArray, List.getElem_cons_succ, List.getElem_cons_zero, List.setIfInBounds_toArray, List.set_cons_succ, List.set_cons_zero]
  refine wpAnyH_take (i := 11) (v := ?_) rfl (by kernel_rfl) (by kernel_rfl) (by kernel_rfl) (fun _ _ _ h => h) (Or.inl ⟨rfl, ?_⟩) hHeld ?_
  rotate_left
  · intro w' hS; obtain ⟨⟨a0, a1, a2⟩, b0, b1⟩ := hS; go_simp <;> with_reducible rfl
  simp only [Act.put, List.getElem_toArray, List.getElem_cons_succ, List.getElem_cons_zero, List.setIfInBounds_toArray, List.set_cons_succ, List.set_cons_zero]
  refine wpAnyH_take (i := 12) (v := ?_) rfl (by kernel_rfl) (by kernel_rfl) (by kernel_rfl) (fun _ _ _ h => h) (Or.inl ⟨rfl, ?_⟩) hHeld ?_
  rotate_left
  · intro w' hS; obtain ⟨⟨a0, a1, a2⟩, b0, b1⟩ := hS; go_simp <;> with_reducible rfl
  simp only [Act.put, List.getElem_toArray, List.getElem_cons_succ, List.getElem_cons_zero, List.setIfInBounds_toArray, List.set_cons_succ, List.set_cons_zero]
  refine wpAnyH_take (i := 13) (v := ?_) rfl (by kernel_rfl) (by kernel_rfl) (by kernel_rfl) (fun _ _ _ h => h) (Or.inl ⟨rfl, ?_⟩) hHeld ?_
  rotate_left
  · intro w' hS; obtain ⟨⟨a0, a1, a2⟩, b0, b1⟩ := hS; go_simp <;> with_reducible rfl
  simp only [Act.put, List.getElem_toArray, List.getElem_cons_succ, List.getElem_cons_zero, List.setIfInBounds_toArray, List.set_cons_succ, List.set_cons_zero]
  refine wpAnyH_take (i := 14) (v := ?_) rfl (by kernel_rfl) (by kernel_rfl) (by kernel_rfl) (fun _ _ _ h => h) (Or.inl ⟨rfl, ?_⟩) hHeld ?_
  rotate_left
  · intro w' hS; obtain ⟨⟨a0, a1, a2⟩, b0, b1⟩ := hS; go_simp <;> with_reducible rfl
  simp only [Act.put, List.getElem_toArray, List.getElem_cons_succ, List.getElem_cons_zero, List.setIfInBounds_toArray, List.set_cons_succ, List.set_cons_zero]
  refine wpAnyH_take (i := 16) (v := ?_) rfl (by kernel_rfl) (by kernel_rfl) (by kernel_rfl) (fun _ _ _ h => h) (Or.inl ⟨rfl, ?_⟩) hHeld ?_
  rotate_left
  · intro w' hS; obtain ⟨⟨a0, a1, a2⟩, b0, b1⟩ := hS; go_simp <;> with_reducible rfl
  simp only [Act.put, List.getElem_toArray, List.getElem_cons_succ, List.getElem_cons_zero, List.setIfInBounds_toArray, List.set_cons_succ, List.set_cons_zero]
  refine wpAnyH_take (i := 17) (v := ?_) rfl (by kernel_rfl) (by kernel_rfl) (by kernel_rfl) (fun _ _ _ h => h) (Or.inl ⟨rfl, ?_⟩) hHeld ?_
  rotate_left
  · intro w' hS; obtain ⟨⟨a0, a1, a2⟩, b0, b1⟩ := hS; go_simp <;> with_reducible rfl
  simp only [Act.put, List.getElem_toArray, List.getElem_cons_succ, List.getElem_cons_zero, List.setIfInBounds_toArray, List.set_cons_succ, List.set_cons_zero]
  refine wpAnyH_ready (rs := [15]) (by kernel_rfl) (by simp) (AllReadyH.cons rfl (fun K hK => ?_) AllReadyH.nil)
  go_simp
  refine (loLoad_any A n c B m d xs s E r y l _ (by exact hA.below ht) (by exact hE.below ht) HX.out HL.out hn7 hr HW.out HIN.out hr8).mono ?_
  rintro e wx ⟨rfl, hb⟩
  replace hcr := hcr.below hb
  replace hst := hst.below hb
  replace ht := below_then ht hb ht.size
  clear hb
  refine hK.out _ _ ⟨box3_of hcr, box1_of hst⟩ (fun hHeld => ?_)
  clear hK K
  try simp only [Act.put, List.getElem_toArray, List.getElem_cons_succ, List.getElem_cons_zero, List.setIfInBounds_toArray, List.set_cons_succ, List.set_cons_zero]
  refine wpAnyH_take (i := 18) (v := ?_) rfl (by kernel_rfl) (by kernel_rfl) (by kernel_rfl) (fun _ _ _ h => h) (Or.inl ⟨rfl, ?_⟩) hHeld ?_
  rotate_left
  · intro w' hS; obtain ⟨⟨a0, a1, a2⟩, b0, b1⟩ := hS; go_simp <;> with_reducible rfl
  simp only [Act.put, List.getElem_toArray, List.getElem_cons_succ, List.getElem_cons_zero, List.setIfInBounds_toArray, List.set_cons_succ, List.set_cons_zero]
  refine wpAnyH_take (i := 19) (v := ?_) rfl (by kernel_rfl) (by kernel_rfl) (by kernel_rfl) (fun _ _ _ h => h) (Or.inl ⟨rfl, ?_⟩) hHeld ?_
  rotate_left
  · intro w' hS; obtain ⟨⟨a0, a1, a2⟩, b0, b1⟩ := hS; go_simp <;> with_reducible rfl
  simp only [Act.put, List.getElem_toArray, List.getElem_cons_succ, List.getElem_cons_zero, List.setIfInBounds_toArray, List.set_cons_succ, List.set_cons_zero]
  refine wpAnyH_done (by kernel_rfl) ?_ _
  clear hHeld
  rw [← HWT.out]
  obtain ⟨c0, c1, c2⟩ := hcr.cells3
  obtain ⟨d0, d1, -, -⟩ := hst.two
  have hE2 := hE.below ht
  have hD2 := hD.below ht
  have hB2 := hB.below ht
  clear hcr hst
  obtain ⟨w1, hw1⟩ : ∃ W, W = wx := ⟨_, rfl⟩
  rw [← hw1] at ht hE2 hD2 hB2 c0 c1 c2 d0 d1 ⊢
  clear hw1
  go_wp2
  go_loopw [7, 32] (fun v i wr => ∃ k x : Nat, k ≤ r ∧ i = .int .i64 k ∧ v = .bool (canRow bs (l.take k)) ∧ wr = w1.drewN x ∧ AtTo sb t l k) (fun _ i _ => r - (intOf i).toNat)
  case atStart => exact ⟨0, 0, Nat.zero_le _, rfl, rfl, rfl, fun _ _ h => absurd h (by omega)⟩
  case round =>
    obtain ⟨k, x, hk, rfl, rfl, rfl, hat⟩ := hrel
    by_cases hlt : k < r
    · have hkl : k < l.length := by have := HL.out; omega
      obtain ⟨b, o, rfl, hbl, hc⟩ := hE2.look (k := k) (by simpa [nums] using hkl)
      simp only [nums, List.getElem_map] at hc
      obtain ⟨hlo, hup⟩ := HIN.out _ (List.getElem_mem hkl)
      have hix : (l[k]).toNat < sb.length := by have := HSL.out; have := HX.out; omega
      obtain ⟨b', o', rfl, hbl', hc'⟩ := hD2.look (k := (l[k]).toNat) (by simpa [bits] using hix)
      have hiy : (l[k]).toNat < bs.length := by have := HR.out; have := HX.out; have := HY.out; omega
      obtain ⟨b'', o'', rfl, hbl'', hc''⟩ := hB2.look (k := (l[k]).toNat) (by simpa [bits] using hiy)
      simp only [bits, List.getElem_map] at hc' hc''
      have hupq : l[k] < q := by have := HQ.out; omega
      have hupm : l[k] < m := by have := HY.out; omega
      have hgd : sb.getD (l[k]).toNat false = sb[(l[k]).toNat] := by simp [hix]
      have hge : bs.getD (l[k]).toNat false = bs[(l[k]).toNat] := by simp [hiy]
      have hcn := canRow_next (bs := bs) hkl
      rw [hge] at hcn
      by_cases he : sb[(l[k]).toNat] = t
      · have hne : (!(sb[(l[k]).toNat] == t)) = false := by simp [he]
        have HE := Lib.hid (hgd.trans he)
        have HCN := Lib.hid hcn
        clear he hgd hge hcn
        cases hrw : canRow bs (l.take k)
        all_goals
          have HRW := Lib.hid hrw
          clear hrw
          go_wp2
          go_quiet (fail)
          go_wp2
          go_roundw
          case rel => exact ⟨k + 1, x + _, by omega, by go_num, by rw [HCN.out, HRW.out]; rfl, rfl, fun j h hj => (Nat.lt_succ_iff_lt_or_eq.1 hj).elim (hat j h) (fun e => by subst e; exact HE.out)⟩
          case measure => simp [intOf]; omega
      · have hne : (!(sb[(l[k]).toNat] == t)) = true := by simp [he]
        have HN := Lib.hid (ride_at (xs := xs) (bs := bs) (s := s) (allAt_no (bs := sb) (t := t) hkl (by rw [hgd]; exact he)))
        clear he hgd hge hcn
        go_wp2
        go_quiet (fail)
        go_wp2
        go_ret
        exact ⟨ret_of (by rw [HN.out]; rfl), below_draws (below_draws ht _) _⟩
    · have HN := Lib.hid (ride_yes (bs := bs) H0.out HRX.out HLE.out (allAt_yes (bs := sb) (t := t) (l := l) (fun j hj => hat j hj (by have := HL.out; omega))))
      have hkr : k = l.length := by have := HL.out; omega
      subst hkr
      rw [List.take_length]
      go_wp2
      go_ret
      exact ⟨ret_of (by rw [HN.out]; rfl), below_draws ht _⟩
end Go.Proofs.Ytlpeimlbpiofkaa

namespace Go.Proofs.Ytlpeimlbpiofkaa
open Go.RowKit

/-- What calmPlaceOf hands back. -/
def CalmPlacePost (a b : Int) (bs : List Bool) (t : Bool) (w : World) (e : Ending) (w' : World) : Prop :=
  ((isPlace a b bs t = true ∧ e = .returned (.tuple #[.agg (placeCells bs t), .bool (calmIn a b bs t)])) ∨ (isPlace a b bs t = false ∧ e = .returned (.tuple #[.agg (placeCells [] false), .bool false]))) ∧ Below w.heap.size w w'

end Go.Proofs.Ytlpeimlbpiofkaa

namespace Go.Proofs.Ytlpeimlbpiofkaa
open Go.RowKit

/-- What is left of l behind two lists, or -1. -/
def crewLeft (l : Int) (n m : Nat) : Int := if l - n - m < 0 then -1 else l - n - m
theorem crewLeft_bad {l : Int} {n m : Nat} (h : l - n - m < 0) : crewLeft l n m = -1 := if_pos h
theorem crewLeft_ok {l : Int} {n m : Nat} (h : ¬ l - n - m < 0) : crewLeft l n m = l - n - m := if_neg h

set_option maxHeartbeats 400000 in
theorem szCrew_any (A : Option Addr) (n c : Nat) (B : Option Addr) (m d : Nat) (s l : Int) (w : World) (hn : n ≤ 9223372036854775807) (hm : m ≤ 9223372036854775807) (h0 : 0 ≤ l) (h1 : l ≤ 1048576) :
    Calls Try.prog 40 #[.agg #[.slice A n c, .slice B m d, .int .i64 s], .int .i64 l] w fun e w' => e = .returned (.int .i64 (crewLeft l n m)) ∧ Below w.heap.size w w' := by
  by_cases h : l < n
  · go_enter Try.func40, Try.ntmps40
    go_wp2_with fail
    refine (szIntS_any A n c l _ hn h0 h1).mono ?_
    rintro e w' ⟨rfl, rfl⟩
    rw [if_pos (by assumption)]
    go_wp2
    go_ret
    exact ⟨ret_of (by rw [crewLeft_bad (by omega)]; rfl), (Below.refl _ _).alloc (Nat.le_refl _) _⟩
  · have h0' : 0 ≤ l - n := by omega
    have h1' : ¬ l - n < 0 := by omega
    by_cases h2 : l - n < m
    all_goals
      go_enter Try.func40, Try.ntmps40
      go_wp2_with fail
      refine (szIntS_any A n c l _ hn h0 h1).mono ?_
      rintro e w' ⟨rfl, rfl⟩
      rw [if_neg (by omega)]
      go_wp2_with fail
      refine (szBoolS_any B m d (l - n) _ hm h0' (by omega)).mono ?_
      rintro e w' ⟨rfl, rfl⟩
      first | rw [if_pos (by assumption)] | rw [if_neg (by omega)]
      go_wp2
      go_ret
      exact ⟨ret_of (by first | (rw [crewLeft_bad (by omega)]; rfl) | (rw [crewLeft_ok (by omega)]; rfl)), (Below.refl _ _).alloc (Nat.le_refl _) _⟩

/-- What toCrew hands back. -/
def CrewTo (xs : List Int) (bs : List Bool) (n m : Nat) (s : Int) (w : World) (e : Ending) (w' : World) : Prop :=
  ∃ g h : Nat, e = .returned (.agg #[.slice (some ⟨g, 0, none⟩) n n, .slice (some ⟨h, 0, none⟩) m m, .int .i64 s]) ∧ w.heap.size ≤ g ∧ Whole w' g 3 (nums xs).toArray ∧ g < h ∧ Whole w' h 4 (bits bs).toArray ∧ Below w.heap.size w w'

set_option maxHeartbeats 1600000 in
theorem toCrew_own (A : Option Addr) (n c : Nat) (xs : List Int) (B : Option Addr) (m d : Nat) (bs : List Bool) (s : Int) (w : World) (hA : Holds w A (nums xs)) (hB : Holds w B (bits bs)) (hx : xs.length = n) (hy : bs.length = m) (hn : n ≤ 1048576) (hm : m ≤ 1048576) :
    Calls Try.prog 42 #[.agg #[.slice A n c, .slice B m d, .int .i64 s]] w (CrewTo xs bs n m s w) := by
  have HX := Lib.hid hx
  have HY := Lib.hid hy
  clear hx hy
  go_enter Try.func42, Try.ntmps42
  go_wp2_with fail
  refine (toIntS_any A n c xs _ (((hA.alloc _).alloc _).alloc _) HX.out hn).mono ?_
  rintro e w1 ⟨rfl, hw, hb, hs⟩
  have hy0 := ((Whole.fresh (w.alloc (.cells #[.slice A n c, .slice B m d, .int .i64 s] 54)) 57 #[.slice none 0 0, .slice none 0 0, .int .i64 0]).alloc (.cells #[.slice none 0 0, .slice none 0 0, .int .i64 0] 57)).below hb
  have hz0 := (Whole.fresh ((w.alloc (.cells #[.slice A n c, .slice B m d, .int .i64 s] 54)).alloc (.cells #[.slice none 0 0, .slice none 0 0, .int .i64 0] 57)) 57 #[.slice none 0 0, .slice none 0 0, .int .i64 0]).below hb
  have ha0 := (((Whole.fresh w 54 #[.slice A n c, .slice B m d, .int .i64 s]).alloc (.cells #[.slice none 0 0, .slice none 0 0, .int .i64 0] 57)).alloc (.cells #[.slice none 0 0, .slice none 0 0, .int .i64 0] 57)).below hb
  simp only [World.size_alloc] at hy0 hz0
  obtain ⟨ac0, ac1, ac2⟩ := ha0.cells3
  obtain ⟨yc0, yc1, yc2⟩ := hy0.cells3
  obtain ⟨zc0, zc1, zc2⟩ := hz0.cells3
  have zf0 := hz0.open_ 0
  have HS := Lib.hid hs
  have hz : w1.heap.size = w.heap.size + 4 := by have := HS.out; simp at this; omega
  clear hs
  have hw' : Whole w1 (w.heap.size + 1 + 1 + 1) 3 (nums xs).toArray := by simpa using hw
  have hb' : Below w.heap.size w w1 := below_then (below3 w _ _ _) hb (by simp; omega)
  clear hw
  have HZ := Lib.hid hz
  clear hz
  go_wp2_with fail
  have hz := HZ.out
  have hb2 : Below w.heap.size w (w1.setCell ⟨w.heap.size + 1 + 1, 0, none⟩ (.slice (some ⟨w.heap.size + 1 + 1 + 1, 0, none⟩) n n)) := below_set hb' (by omega)
  refine (toBoolS_any B m d bs _ (by exact hB.below hb2) HY.out hm).mono ?_
  rintro e w2 ⟨rfl, hv, hb3, hs2⟩
  have hy1 := (hy0.off (by omega)).below hb3
  have hz1 := (hz0.set_ 0 (.slice (some ⟨w.heap.size + 1 + 1 + 1, 0, none⟩) n n)).below hb3
  obtain ⟨yd0, yd1, yd2⟩ := hy1.cells3
  obtain ⟨zd0, zd1, zd2⟩ := (show Whole w2 (w.heap.size + 1 + 1) 57 #[.slice (some ⟨w.heap.size + 1 + 1 + 1, 0, none⟩) n n, .slice none 0 0, .int .i64 0] by simpa using hz1).cells3
  have ha1 := (ha0.off (b := w.heap.size + 1 + 1) (o := 0) (u := .slice (some ⟨w.heap.size + 1 + 1 + 1, 0, none⟩) n n) (by omega)).below hb3
  clear yc0 yc1 yc2 zc0 zc1 zc2 zf0 ac0 ac1 ac2
  obtain ⟨ad0, ad1, ad2⟩ := ha1.cells3
  have zf1 := hz1.open_ 1
  have zf2 := hz1.open_ 2
  have yf0 := hy1.open_ 0
  have yf1 := hy1.open_ 1
  have yf2 := hy1.open_ 2
  have hs1 : (w1.setCell ⟨w.heap.size + 1 + 1, 0, none⟩ (.slice (some ⟨w.heap.size + 1 + 1 + 1, 0, none⟩) n n)).heap.size = w1.heap.size := by simp [World.setCell]
  rw [hs1, hz] at hs2 hv
  have hw2 : Whole w2 (w.heap.size + 1 + 1 + 1) 3 (nums xs).toArray := (hw'.off (by omega)).below hb3
  have hb4 : Below w.heap.size w w2 := below_then hb2 hb3 hb2.size
  have HV := Lib.hid hv
  have HS2 := Lib.hid hs2
  clear hv hs2 hb3
  go_wp2
  have hv := HV.out
  refine bodyPost_ret (v := .agg #[.slice (some ⟨w.heap.size + 1 + 1 + 1, 0, none⟩) n n, .slice (some ⟨w.heap.size + 4, 0, none⟩) m m, .int .i64 s]) (by simp [results, Try.results42, go_sem, yd0, yd1, yd2, zd0, zd1, zd2]) rfl ⟨_, _, rfl, by omega, ?_, by omega, ?_, ?_⟩
  · exact ((((hw2.off (by omega)).off (by omega)).off (by omega)).off (by omega)).off (by omega)
  · exact ((((hv.off (by omega)).off (by omega)).off (by omega)).off (by omega)).off (by omega)
  · exact below_set (below_set (below_set (below_set (below_set hb4 (by omega)) (by omega)) (by omega)) (by omega)) (by omega)

/-- Two crews of one reading are the same. -/
theorem eqCrew_yes (A B : Option Addr) (n c d : Nat) (xs : List Int) (A' B' : Option Addr) (m c' d' : Nat) (bs : List Bool) (s : Int) (w : World) (hA : Holds w A (nums xs)) (hB : Holds w B (nums xs)) (hA' : Holds w A' (bits bs)) (hB' : Holds w B' (bits bs)) (hx : xs.length = n) (hy : bs.length = m) (hn : n ≤ 9223372036854775807) (hm : m ≤ 9223372036854775807) :
    Calls Try.prog 44 #[.agg #[.slice A n c, .slice A' m c', .int .i64 s], .agg #[.slice B n d, .slice B' m d', .int .i64 s]] w fun e w' => e = .returned (.bool true) ∧ Below w.heap.size w w' := by
  have HX := Lib.hid hx
  have HY := Lib.hid hy
  have HI := Lib.hid (sameInts_yes (a := xs) (b := xs) rfl)
  have HB := Lib.hid (sameBits_yes (a := bs) (b := bs) rfl)
  clear hx hy
  have hss : (!(s == s)) = false := by simp
  have hb2 := below2 w (.cells #[.slice A n c, .slice A' m c', .int .i64 s] 57) (.cells #[.slice B n d, .slice B' m d', .int .i64 s] 57)
  go_enter Try.func44, Try.ntmps44
  go_wp2_with fail
  refine (eqIntS_any A B n n c d xs xs _ (by exact hA.below hb2) (by exact hB.below hb2) HX.out HX.out hn hn).mono ?_
  rintro e w1 ⟨rfl, k, rfl⟩
  rw [HI.out]
  go_wp2_with fail
  refine (eqBoolS_any A' B' m m c' d' bs bs _ (by exact hA'.below (below_draws hb2 k)) (by exact hB'.below (below_draws hb2 k)) HY.out HY.out hm hm).mono ?_
  rintro e w2 ⟨rfl, k2, rfl⟩
  rw [HB.out]
  go_wp2
  go_ret
  exact ⟨rfl, below_draws hb2 (k + k2)⟩

set_option maxHeartbeats 800000 in
theorem markCrew_any (A : Option Addr) (n c lo mid hi : Nat) (xs : List Value) (B : Option Addr) (m d : Nat) (bs : List Value) (s q : Int) (w : World) (hf : Fresh w lo mid 3 A xs) (hg : Fresh w mid hi 4 B bs) (hx : xs.length = n) (hy : bs.length = m) (h0 : 0 ≤ q) (h1 : q ≤ 2305843009213693952) (hn : n ≤ 1048576) (hm : m ≤ 1048576) (hlo : lo ≤ mid) (hhi : mid ≤ hi) (hz : hi ≤ w.heap.size) :
    Calls Try.prog 47 #[.agg #[.slice A n c, .slice B m d, .int .i64 s], .int .i64 q] w fun e w' => e = .returned (.int .i64 (q + n + m)) ∧ Span lo hi w w' ∧ (Fresh w' lo mid 3 A (nums (marksI q n)) ∧ Fresh w' mid hi 4 B (bits (marksB (q + n) m))) := by
  have HX := Lib.hid hx
  have HY := Lib.hid hy
  clear hx hy
  have hb1 := Whole.fresh w 57 #[.slice A n c, .slice B m d, .int .i64 s]
  go_enter Try.func47, Try.ntmps47
  go_wp2_with fail
  refine (markIntS_any A n c lo mid xs q _ (hf.alloc _) HX.out h0 (by omega) hn).mono ?_
  rintro e w1 ⟨rfl, hs, hf1⟩
  have hq1 : (0 : Int) ≤ q + n := by omega
  have hbl := (below1 w (.cells #[.slice A n c, .slice B m d, .int .i64 s] 57))
  have hs0 : Span lo hi w w1 := (Span.of_below hbl lo hi).trans ⟨hs.os, hs.tape, hs.output, hs.size, fun k hk h => hs.block k hk (by omega)⟩
  have hb2 := hs.whole hb1 (by omega)
  obtain ⟨c0, c1, c2⟩ := hb2.cells3
  have hg1 := hs.fresh (hg.alloc (.cells #[.slice A n c, .slice B m d, .int .i64 s] 57)) (by omega)
  go_wp2_with fail
  refine (markBoolS_any B m d mid hi bs (q + n) _ hg1 HY.out hq1 (by omega) hm).mono ?_
  rintro e w2 ⟨rfl, hs2, hf2⟩
  have hs3 : Span lo hi w w2 := hs0.trans ⟨hs2.os, hs2.tape, hs2.output, hs2.size, fun k hk h => hs2.block k hk (by omega)⟩
  have hf3 := hs2.fresh hf1 (by omega)
  have hq2 : (0 : Int) ≤ q + n + m := by omega
  go_wp2
  go_ret
  exact ⟨rfl, hs3, hf3, hf2⟩

/-- A row lies in one block, or nowhere. -/
theorem Fresh.tight {w : World} {lo hi : Nat} {ty : TypeId} {A : Option Addr} {xs : List Value} (hf : Fresh w lo hi ty A xs) (hh : lo ≤ hi) : ∃ l r, Fresh w l r ty A xs ∧ lo ≤ l ∧ r ≤ hi ∧ ((l = lo ∧ r = lo) ∨ (r = l + 1 ∧ ∃ cs, Whole w l ty cs)) := by
  rcases hf with rfl | ⟨g, cs, hA, h1, h2, hw, h3, h4⟩
  · exact ⟨lo, lo, .inl rfl, Nat.le_refl _, hh, .inl ⟨rfl, rfl⟩⟩
  · exact ⟨g, g + 1, .inr ⟨g, cs, hA, Nat.le_refl _, Nat.lt_succ_self _, hw, h3, h4⟩, h1, h2, .inr ⟨rfl, cs, hw⟩⟩
theorem whole_other {w : World} {g h : Nat} {t u : TypeId} {a b : Array Value} (h1 : Whole w g t a) (h2 : Whole w h u b) (hn : t ≠ u) : g ≠ h := by
  rintro rfl
  have e : some (Obj.cells a t (0, 0)) = some (Obj.cells b u (0, 0)) := h1.symm.trans h2
  simp at e
  exact hn e.2

set_option maxHeartbeats 800000 in
theorem markCrew_apart (A : Option Addr) (n c lo hi : Nat) (xs : List Value) (B : Option Addr) (m d : Nat) (bs : List Value) (s q : Int) (w : World) (hf : Fresh w lo hi 3 A xs) (hg : Fresh w lo hi 4 B bs) (hx : xs.length = n) (hy : bs.length = m) (h0 : 0 ≤ q) (h1 : q ≤ 2305843009213693952) (hn : n ≤ 1048576) (hm : m ≤ 1048576) (hh : lo ≤ hi) (hz : hi ≤ w.heap.size) :
    Calls Try.prog 47 #[.agg #[.slice A n c, .slice B m d, .int .i64 s], .int .i64 q] w fun e w' => e = .returned (.int .i64 (q + n + m)) ∧ Span lo hi w w' ∧ Fresh w' lo hi 3 A (nums (marksI q n)) ∧ Fresh w' lo hi 4 B (bits (marksB (q + n) m)) := by
  have HX := Lib.hid hx
  have HY := Lib.hid hy
  clear hx hy
  obtain ⟨l1, r1, hf1, ha1, hb1, hc1⟩ := hf.tight hh
  obtain ⟨l2, r2, hg1, ha2, hb2, hc2⟩ := hg.tight hh
  have hd : r1 ≤ l2 ∨ r2 ≤ l1 := by
    rcases hc1 with ⟨e1, e2⟩ | ⟨e1, cs1, hw1⟩
    · exact .inl (by omega)
    · rcases hc2 with ⟨e3, e4⟩ | ⟨e3, cs2, hw2⟩
      · exact .inr (by omega)
      · have := whole_other hw1 hw2 (by decide)
        omega
  have hbx := Whole.fresh w 57 #[.slice A n c, .slice B m d, .int .i64 s]
  clear hf hg hc1 hc2
  go_enter Try.func47, Try.ntmps47
  go_wp2_with fail
  refine (markIntS_any A n c l1 r1 xs q _ (hf1.alloc _) HX.out h0 (by omega) hn).mono ?_
  rintro e w1 ⟨rfl, hs, hf2⟩
  have hq1 : (0 : Int) ≤ q + n := by omega
  have hbl := (below1 w (.cells #[.slice A n c, .slice B m d, .int .i64 s] 57))
  have hs0 : Span lo hi w w1 := (Span.of_below hbl lo hi).trans ⟨hs.os, hs.tape, hs.output, hs.size, fun k hk h => hs.block k hk (by omega)⟩
  obtain ⟨c0, c1, c2⟩ := (hs.whole hbx (by omega)).cells3
  have hg2 := hs.fresh (hg1.alloc (.cells #[.slice A n c, .slice B m d, .int .i64 s] 57)) (by omega)
  go_wp2_with fail
  refine (markBoolS_any B m d l2 r2 bs (q + n) _ hg2 HY.out hq1 (by omega) hm).mono ?_
  rintro e w2 ⟨rfl, hs2, hg3⟩
  have hs3 : Span lo hi w w2 := hs0.trans ⟨hs2.os, hs2.tape, hs2.output, hs2.size, fun k hk h => hs2.block k hk (by omega)⟩
  have hf3 := hs2.fresh hf2 (by omega)
  have hq2 : (0 : Int) ≤ q + n + m := by omega
  go_wp2
  go_ret
  exact ⟨rfl, hs3, hf3.more ha1 hb1, hg3.more ha2 hb2⟩

end Go.Proofs.Ytlpeimlbpiofkaa

namespace Go.Proofs.Ytlpeimlbpiofkaa
open Go.RowKit

def CrewPlPost (ok : Bool) (sb : List Bool) (t : Bool) (w : World) (e : Ending) (w' : World) : Prop :=
  ((ok = true ∧ e = .returned (.tuple #[.agg (placeCells sb t), .bool true])) ∨ (ok = false ∧ e = .returned (.tuple #[.agg (placeCells [] false), .bool false]))) ∧ Below w.heap.size w w'
end Go.Proofs.Ytlpeimlbpiofkaa

namespace Go.Proofs.Ytlpeimlbpiofkaa
open Go.RowKit

/-- Does a list come before another one? -/
def lexB : List Int → List Int → Bool
  | [], [] => false
  | [], _ :: _ => true
  | _ :: _, [] => false
  | a :: xs, b :: ys => if a = b then lexB xs ys else decide (a < b)
/-- Where a group goes among the first k of some. -/
def spotG (out : List Nat) (g : Nat) : Nat → Nat
  | 0 => 0
  | k + 1 => if lexB (listOf g) (listOf (out.getD k 0)) then spotG out g k else k + 1
def insG (out : List Nat) (g : Nat) : List Nat := out.take (spotG out g out.length) ++ [g] ++ out.drop (spotG out g out.length)
/-- The rows among the groups from g on, n of them, put into some. -/
def rowsM (k : Nat) (q : Int) (x : Nat) : Nat → Nat → List Nat → List Nat
  | 0, _, out => out
  | n + 1, g, out => rowsM k q x n (g + 1) (if canM k q x g then insG out g else out)
def rowsSame (k q x : Nat) : Bool := (rowsM k q x (2 ^ (2 * k) - 1) 1 []).map listOf == rowsIn k q (bitsOf (x / 2) (2 * k)) (bitAt x 0)
theorem rows_same1 : (List.range 4).all (fun q => (List.range 8).all fun x => !quiet 1 (bitAt (x / 2)) || rowsSame 1 (q + 1) x) = true := by decide +kernel
theorem rows_same2 : (List.range 4).all (fun q => (List.range 32).all fun x => !quiet 2 (bitAt (x / 2)) || rowsSame 2 (q + 1) x) = true := by decide +kernel
theorem rows_same3 : (List.range 4).all (fun q => (List.range 128).all fun x => !quiet 3 (bitAt (x / 2)) || rowsSame 3 (q + 1) x) = true := by decide +kernel
theorem rows_same4 : (List.range 4).all (fun q => (List.range 512).all fun x => !quiet 4 (bitAt (x / 2)) || rowsSame 4 (q + 1) x) = true := by decide +kernel
end Go.Proofs.Ytlpeimlbpiofkaa

namespace Go.Proofs.Ytlpeimlbpiofkaa
open Go.RowKit

theorem lexB_same {a b : List Int} {k : Nat} (ha : k < a.length) (hb : k < b.length) (he : a[k] = b[k]) : lexB (a.drop k) (b.drop k) = lexB (a.drop (k + 1)) (b.drop (k + 1)) := by
  rw [List.drop_eq_getElem_cons ha, List.drop_eq_getElem_cons hb, lexB, if_pos he]
theorem lexB_part {a b : List Int} {k : Nat} (ha : k < a.length) (hb : k < b.length) (he : a[k] ≠ b[k]) : lexB (a.drop k) (b.drop k) = decide (a[k] < b[k]) := by
  rw [List.drop_eq_getElem_cons ha, List.drop_eq_getElem_cons hb, lexB, if_neg he]
theorem lexB_end {a b : List Int} {k : Nat} (ha : k ≤ a.length) (hb : k ≤ b.length) (h : ¬ (k < a.length ∧ k < b.length)) : lexB (a.drop k) (b.drop k) = decide (a.length < b.length) := by
  by_cases h1 : k < a.length
  · have h2 : b.length ≤ k := by omega
    rw [List.drop_eq_getElem_cons h1, List.drop_of_length_le h2, lexB]
    simp; omega
  · have h2 : a.length ≤ k := by omega
    rw [List.drop_of_length_le h2]
    by_cases h3 : k < b.length
    · rw [List.drop_eq_getElem_cons h3, lexB]
      simp; omega
    · rw [List.drop_of_length_le (by omega), lexB]
      simp; omega

def ofN (l : List Nat) : List Int := l.map Int.ofNat
theorem ofN_len (l : List Nat) : (ofN l).length = l.length := by simp [ofN]
theorem rowsM_next (k : Nat) (q : Int) (x n g : Nat) (out : List Nat) : rowsM k q x (n + 1) g out = rowsM k q x n (g + 1) (if canM k q x g then insG out g else out) := rfl
theorem spotG_le (out : List Nat) (g : Nat) : ∀ k, spotG out g k ≤ k
  | 0 => Nat.le_refl _
  | k + 1 => by
    rw [spotG]
    split
    · have := spotG_le out g k; omega
    · omega
theorem insG_len (out : List Nat) (g : Nat) : (insG out g).length = out.length + 1 := by
  have := spotG_le out g out.length
  simp [insG]
  omega
theorem insG_mem {out : List Nat} {g b : Nat} (h : ∀ y ∈ out, y < b) (hg : g < b) : ∀ y ∈ insG out g, y < b := by
  intro y hy
  simp only [insG, List.mem_append, List.mem_singleton] at hy
  rcases hy with (hy | rfl) | hy
  · exact h y (List.mem_of_mem_take hy)
  · exact hg
  · exact h y (List.mem_of_mem_drop hy)

theorem listOf_le (g : Nat) : (listOf g).length ≤ 8 := by
  unfold listOf listTo
  rw [List.length_map]
  exact Nat.le_trans (List.length_filter_le _ _) (by simp)
theorem whole_grownR {w w' : World} {g : Nat} {ty : TypeId} {cs : Array Value} {row : Option Nat} (h : Whole w g ty cs) (hg : w.grownBy w' row) (hne : ¬ row = some g) : Whole w' g ty cs := (hg.block g h.lt (fun e => hne e.symm)).trans h

end Go.Proofs.Ytlpeimlbpiofkaa

namespace Go.Proofs.Ytlpeimlbpiofkaa
open Go.RowKit

/-- What one begins with, unless it is nobody. -/
def headOf (bs : List Int) : List (List Int) := if bs.length = 0 then [] else [bs]
def groups (m : Nat) (os bs : List Int) : List (List Int) := headOf bs ++ subs m os bs
/-- A list of lists under way. -/
def Under (G : List (List Int)) (m j lo : Nat) (os bs : List Int) (w : World) (v : Value) (wx : World) : Prop :=
  ∃ (E : Option Addr) (d : Nat) (acc : List RowV), v = .slice E acc.length d ∧ rowNums acc ++ subs m (os.drop j) bs = G ∧ (E = none → acc = [] ∧ d = 0) ∧ (∀ a, E = some a → a = ⟨a.block, 0, none⟩ ∧ 0 < acc.length) ∧ Heads wx lo E d acc ∧ Below lo w wx
theorem groups_next {m : Nat} {b o : List Int} {i : Nat} (hi : i < o.length) (h : b.length < m) : subs m (o.drop i) b = groups m (o.drop (i + 1)) (b ++ [o[i]]) ++ subs m (o.drop (i + 1)) b := by
  rw [subs_next hi h, groups, headOf, if_neg (by simp)]
  rfl

theorem holds_as {w : World} {A : Option Addr} {xs ys : List Value} (h : Holds w A xs) (e : xs = ys) : Holds w A ys := e ▸ h
theorem one_kept {w w' : World} {v : Value} {t : TypeId} (hb : Below (w.alloc (.cells #[v] t)).heap.size (w.alloc (.cells #[v] t)) w') : ∀ j u, [v][j]? = some u → w'.cell? ((⟨w.heap.size, 0, none⟩ : Addr).add j) = some u := fun j u hu => by
  rw [Addr.add_lit]
  refine (hb.cell (p := ⟨w.heap.size, 0 + j, none⟩) (by simp)).trans ?_
  have := cell_one_new w v t j u hu
  rwa [Addr.add_lit] at this
theorem subs_some {A : Option Addr} {c : Nat} {rs : List RowV} {G : List (List Int)} (hn : A = none → rs = [] ∧ c = 0) (hs : ∀ a, A = some a → a = ⟨a.block, 0, none⟩ ∧ 0 < rs.length) (hr : rowNums rs = G) (hp : 0 < G.length) : ∃ b, A = some ⟨b, 0, none⟩ ∧ 0 < rs.length := by
  cases A with
  | none =>
    obtain ⟨rfl, -⟩ := hn rfl
    rw [← hr] at hp
    simp [rowNums] at hp
  | some a =>
    obtain ⟨h1, h2⟩ := hs a rfl
    exact ⟨a.block, by rw [← h1], h2⟩
theorem rows_le {n b : Nat} {rs : List RowV} {G : List (List Int)} (h : n + G.length ≤ b) (hr : rowNums rs = G) : n + rs.length ≤ b := by
  rw [← hr, rowNums_len] at h
  exact h
theorem rows_len1 (rs : List RowV) : (rowVals rs).length = rs.length * 1 := by rw [rowVals_len, Nat.mul_one]
theorem heads_news {w : World} {lo b c : Nat} {rs : List RowV} (h : Heads w lo (some ⟨b, 0, none⟩) c rs) : ∀ j u, (rowVals rs)[j]? = some u → w.cell? ((⟨b, 0, none⟩ : Addr).add j) = some u := fun j u hu => by
  rw [Addr.add_lit]
  rcases holds_of_own h.1 with h | ⟨b', o, h, -, hcell⟩
  · rw [h] at hu; simp at hu
  · obtain ⟨rfl, rfl⟩ : b = b' ∧ 0 = o := by simpa using h
    exact hcell j u hu

set_option maxHeartbeats 6400000 in
set_option maxRecDepth 100000 in
theorem paGroups_any (m : Nat) (hm : m ≤ 8) : ∀ (g : Nat) (A B : Option Addr) (k z n c f : Nat) (bs os : List Int) (w : World), n - f < g → n ≤ 8 → f ≤ n → Holds w A (nums bs) → Holds w B (nums os) → bs.length = k → os.length = n → k ≤ m → (A = none → k = 0 ∧ z = 0) →
    Calls Try.prog 140 #[.slice B n c, .slice A k z, .int .i64 f, .int .i64 m] w (SubsPost (groups m (os.drop f) bs) w) := by
  intro g
  induction g with
  | zero => intro A B k z n c f bs os w hg; omega
  | succ g ih =>
    intro A B k z n c f bs os w hg hn8 hfn hA hB hk hn hkm hnil
    obtain ⟨i0, hi, hz0, hz1, hz2⟩ := info_parts info_int
    have HI := Lib.hid hi
    have HZ0 := Lib.hid hz0
    have HZ1 := Lib.hid hz1
    have HZ2 := Lib.hid hz2
    obtain ⟨i1, ri, rz0, rz1, rz2⟩ := info_parts info_row
    have RI := Lib.hid ri
    have RZ0 := Lib.hid rz0
    have RZ1 := Lib.hid rz1
    have RZ2 := Lib.hid rz2
    have HK := Lib.hid hk
    have HN := Lib.hid hn
    have HNIL := Lib.hid hnil
    have HIH := Lib.hid ih
    have hk8 : k ≤ 8 := by omega
    generalize hG : groups m (os.drop f) bs = G
    have HG := Lib.hid hG
    clear hi hz0 hz1 hz2 ri rz0 rz1 rz2 hk hn hnil ih hG
    go_enter Try.func140, Try.ntmps140
    go_upto_if 13 with fail
    go_cut [9] from 13 to 18 (fun s9 wx => Under G m f w.heap.size os bs w s9 wx)
    case first =>
      by_cases hk0 : k = 0
      · have hd : decide (0 < k) = false := by simp [hk0]
        have hd' : ¬ 0 < k := by omega
        have HB0 : Hid (bs = []) := List.length_eq_zero_iff.1 (by have := HK.out; omega)
        clear hk0
        go_wp2_with fail
        go_meet
        refine ⟨none, 0, [], rfl, ?_, fun _ => ⟨rfl, rfl⟩, fun a h => (by cases h), Heads.nil _ _, Below.refl _ _⟩
        rw [← HG.out, groups, headOf, HB0.out]
        rfl
      · have hd : decide (0 < k) = true := by simp; omega
        have hd' : 0 < k := by omega
        have HB0 : Hid (bs.length ≠ 0) := by show _ ≠ _; have := HK.out; omega
        clear hk0
        go_wp2_with fail
        refine (l1Own_any A k z bs _ hA HK.out (by omega) (fun h => (HNIL.out h).2)).mono ?_
        rintro e w1 ⟨A1, c1, rfl, hown1, hb1⟩
        rw [HK.out] at hown1 ⊢
        have hs1 : w.heap.size ≤ w1.heap.size := hb1.size
        have HO1 := Lib.hid hown1
        have HB1 := Lib.hid hb1
        have HZ := Lib.hid (show w.heap.size ≤ (w1.alloc (.cells #[.slice A1 k c1] 22)).heap.size by simp; omega)
        clear hown1 hb1
        go_wp2_with (at_builtin; refine wpList_append_lies _ rfl (.tmp 14) (.tmp 17) 32 rfl w.heap.size 22 i1 (.slice none 0 0) 1 24 Try.underlying32 RI.out RZ0.out RZ1.out RZ2.out rfl (by decide) (.slice none 0 0) 0 [] rfl (World.ownsRow_nil _ _ _ _) ⟨w1.heap.size, 0, none⟩ 1 1 [.slice A1 k c1] rfl rfl (cell_one_new _ _ _) (by simp [Value.oneCell']) (by decide) (by decide) (by decide) HZ.out (w1.heap.size + 1) (by simp) ?_; intro g3 c3 w3 hown3 hg3 hat3 hlt3)
        have hF := own_fresh0' HO1.out
        have hH3 := Heads.push (r := ⟨A1, k, c1, bs⟩) (Heads.nil w w.heap.size) (Nat.le_refl _) HB1.out hF HK.out (by show k ≤ _; omega) hown3 hg3 hat3
        have hb3 : Below w.heap.size w w3 := (HB1.out.alloc hs1 (.cells #[.slice A1 k c1] 22)).grown hg3 HZ.out (fun kk e => by simp [Value.ownBlock] at e)
        go_meet
        refine ⟨some ⟨g3, 0, none⟩, c3, [⟨A1, k, c1, bs⟩], rfl, ?_, fun h => (by cases h), fun a h => by obtain rfl := Option.some.inj h; exact ⟨rfl, by simp⟩, hH3, hb3⟩
        rw [← HG.out, groups, headOf, if_neg HB0.out]
        rfl
    case rest =>
      obtain ⟨E0, d0, acc0, rfl, hac0, hn0, hs0, hh0, hb0⟩ := hcut
      have HAC0 := Lib.hid hac0
      have HN0 := Lib.hid hn0
      have HS0 := Lib.hid hs0
      have HH0 := Lib.hid hh0
      have HB0 := Lib.hid hb0
      clear hac0 hn0 hs0 hh0 hb0
      by_cases hkm2 : k = m
      · subst hkm2
        have HR : Hid (rowNums acc0 = G) := by show _ = _; rw [← HAC0.out, subs_full (by have := HK.out; omega)]; simp
        go_wp2
        go_ret
        exact ⟨E0, d0, acc0, rfl, HR.out, HN0.out, HS0.out, HH0.out, HB0.out⟩
      · have hd1 : decide (k = m) = false := by simp [hkm2]
        have hne : ((k : Int) == (m : Int)) = false := by simp; omega
        have hkb : bs.length < m := by have := HK.out; omega
        have HKB := Lib.hid hkb
        have HKM := Lib.hid (show k + 1 ≤ m by omega)
        clear hkm2 hkb
        go_wp2_with fail
        go_loopw [9, 10] (fun v i wr => ∃ j : Nat, f ≤ j ∧ j ≤ n ∧ i = .int .i64 j ∧ Under G m j w.heap.size os bs w v wr) (fun _ i _ => n - (intOf i).toNat)
        case atStart => exact ⟨f, Nat.le_refl _, hfn, rfl, ⟨E0, d0, acc0, rfl, HAC0.out, HN0.out, HS0.out, HH0.out, HB0.out⟩⟩
        case round =>
          obtain ⟨j, hfj, hj, rfl, E, d, acc, rfl, hac, hEn, hEs, hh, hb⟩ := hrel
          clear HAC0 HN0 HS0 HH0 HB0
          by_cases hjn : j < n
          · have hjl : j < os.length := by have := HN.out; omega
            obtain ⟨b0, o0, rfl, hbl0, hcell0⟩ := hB.look (k := j) (by rw [nums_len]; exact hjl)
            simp only [nums, List.getElem_map] at hcell0
            have HNX : Hid (rowNums acc ++ groups m (os.drop (j + 1)) (bs ++ [os[j]]) ++ subs m (os.drop (j + 1)) bs = G) := by show _ = _; rw [List.append_assoc, ← groups_next hjl HKB.out]; exact hac
            have HAL : Hid (acc.length + (groups m (os.drop (j + 1)) (bs ++ [os[j]])).length ≤ 256) := by
              have h1 := congrArg List.length HNX.out
              have h2 := congrArg List.length HG.out
              have h3 := subs_small (m := m) (o := os.drop f) (b := bs) (by have := HN.out; simp; omega)
              have h4 : (headOf bs).length ≤ 1 := by unfold headOf; split <;> simp
              simp only [List.length_append, rowNums_len, groups] at h1 h2
              show _ ≤ _
              simp only [List.length_append, groups]
              omega
            have HPOS : Hid (0 < (groups m (os.drop (j + 1)) (bs ++ [os[j]])).length) := by show _ < _; simp [groups, headOf]
            have HH := Lib.hid hh
            have HB := Lib.hid hb
            have hbs : w.heap.size ≤ wr.heap.size := hb.size
            have hA1 := hA.below hb
            have hcell : wr.cell? ⟨b0, o0 + j, none⟩ = some (.int .i64 os[j]) := (hb.cell (p := ⟨b0, o0 + j, none⟩) hbl0).trans hcell0
            have HBL0 := Lib.hid hbl0
            have HBW := Lib.hid hB
            have hdl : (os.drop (j + 1)).length = n - (j + 1) := by have := HN.out; simp; omega
            generalize hx : os[j] = x at hcell hcell0 HNX HAL HPOS
            have hFl : (bs ++ [x]).length = k + 1 := by have := HK.out; simp; omega
            have HFL := Lib.hid hFl
            have HDL := Lib.hid hdl
            have HM1 := Lib.hid (show k + 1 ≤ maxLen by unfold maxLen; omega)
            have HY1 := Lib.hid (show (k + 1) * 8 ≤ 140737488355328 by omega)
            have hwj : IntKind.i64.wrap ((j : Int) + 1) = (j : Int) + 1 := IntWalk.i64_in _ (by omega)
            have hcast : ((j : Int) + 1) = ((j + 1 : Nat) : Int) := by omega
            have HCAST := Lib.hid hcast
            have hnx : nums bs ++ [Value.int .i64 x] = nums (bs ++ [x]) := by simp [nums]
            have HNM := Lib.hid hnx
            have hcellw := hcell0
            clear hac hEn hEs hh hb hx hdl hFl hcast hnx hcell0 hbl0
            go_upto_block 1 with fail
            go_cut [9] from 31 to 45 (fun s9 wx => Under G m (j + 1) w.heap.size os bs w s9 wx)
            case first =>
              go_wp2_with fail
              go_region_held3 (fun w' => w'.cell? ⟨b0, o0 + j, none⟩ = some (.int .i64 x)) (go_keep)
                (first | (go_at_call 150; refine (l1Own_any A k z bs _ (by with_reducible exact hA1.drew) HK.out (by omega) (fun h => (HNIL.out h).2)).mono ?_; rintro e w1 ⟨A1, c1, rfl, hown1, hb1⟩; rw [HK.out] at hown1 ⊢; have hc1 : Below wr.heap.size wr w1 := (by first | exact below_then (Below.refl wr.heap.size wr).drew hb1 (Nat.le_refl _)); have hs1 : wr.heap.size ≤ w1.heap.size := hc1.size; have hcx := (hc1.cell (p := ⟨b0, o0 + j, none⟩) (Nat.lt_of_lt_of_le HBL0.out hbs)).trans hcell; have HO1 := Lib.hid (hown1.alloc (.cells #[.int .i64 x] 3)); have HCB1 := Lib.hid (hc1.alloc hs1 (.cells #[.int .i64 x] 3)); have HZ1' := Lib.hid (show wr.heap.size ≤ (w1.alloc (.cells #[.int .i64 x] 3)).heap.size from (by simp; omega)); clear hown1 hb1 hc1) | (go_at_call 150; refine (l1Own_any A k z bs _ (by with_reducible exact (hA1.alloc _).drew) HK.out (by omega) (fun h => (HNIL.out h).2)).mono ?_; rintro e w1 ⟨A1, c1, rfl, hown1, hb1⟩; rw [HK.out] at hown1 ⊢; have hb1' : Below (wr.alloc (.cells #[.int .i64 x] 3)).heap.size (wr.alloc (.cells #[.int .i64 x] 3)) w1 := below_then (Below.refl _ _).drew hb1 (Nat.le_refl _); have hc1 : Below wr.heap.size wr w1 := below_then ((Below.refl wr.heap.size wr).alloc (Nat.le_refl _) (.cells #[.int .i64 x] 3)) hb1' (by simp); have hs1 : wr.heap.size ≤ w1.heap.size := hc1.size; have hcx := (hc1.cell (p := ⟨b0, o0 + j, none⟩) (Nat.lt_of_lt_of_le HBL0.out hbs)).trans hcell; have HOB := Lib.hid (own_lower (base' := wr.heap.size) hown1 (show wr.heap.size ≤ (wr.alloc (.cells #[.int .i64 x] 3)).heap.size from (by simp))); have HCB := Lib.hid hc1; have HNB := Lib.hid (one_kept hb1'); clear hb1'; clear hown1 hb1 hc1) | (refine step_append_lies _ rfl (.tmp 34) (.tmp 39) 22 rfl wr.heap.size 3 i0 (.int .i64 0) 1 8 Try.underlying22 HI.out HZ0.out HZ1.out HZ2.out rfl (by decide) (.slice A1 k c1) k (nums bs) (by simp [Act.eval]) HO1.out ⟨w1.heap.size, 0, none⟩ 1 1 [.int .i64 x] (by simp [Act.eval]) rfl (cell_one_new _ _ _) (by simp [Value.oneCell']) (by decide) HM1.out HY1.out HZ1'.out (w1.heap.size + 1) (by simp) ?_; intro g2 c2 w2 hown2 hg2 hat2 hlt2; have hc2 : Below wr.heap.size wr w2 := HCB1.out.grown hg2 HZ1'.out (fun kk e => (HO1.out.lt kk e).1); have hs2 : wr.heap.size ≤ w2.heap.size := hc2.size; have hcx2 := (hc2.cell (p := ⟨b0, o0 + j, none⟩) (Nat.lt_of_lt_of_le HBL0.out hbs)).trans hcell; have HL2 : Hid (Holds w2 (some ⟨g2, 0, none⟩) (nums (bs ++ [x]))) := holds_as (own_fresh0' hown2).holds HNM.out; have HW2 := Lib.hid ((HBW.out.below HB.out).below hc2); have HC2 := Lib.hid hc2; clear hown2 hg2 hat2 hc2) | (refine step_append_lies _ rfl (.tmp 34) (.tmp 39) 22 rfl wr.heap.size 3 i0 (.int .i64 0) 1 8 Try.underlying22 HI.out HZ0.out HZ1.out HZ2.out rfl (by decide) (.slice A1 k c1) k (nums bs) (by simp [Act.eval]) HOB.out ⟨wr.heap.size, 0, none⟩ 1 1 [.int .i64 x] (by simp [Act.eval]) rfl HNB.out (by simp [Value.oneCell']) (by decide) HM1.out HY1.out hs1 w1.heap.size rfl ?_; intro g2 c2 w2 hown2 hg2 hat2 hlt2; have hc2 : Below wr.heap.size wr w2 := HCB.out.grown hg2 hs1 (fun kk e => (HOB.out.lt kk e).1); have hs2 : wr.heap.size ≤ w2.heap.size := hc2.size; have hcx2 := (hc2.cell (p := ⟨b0, o0 + j, none⟩) (Nat.lt_of_lt_of_le HBL0.out hbs)).trans hcell; have HL2 : Hid (Holds w2 (some ⟨g2, 0, none⟩) (nums (bs ++ [x]))) := holds_as (own_fresh0' hown2).holds HNM.out; have HW2 := Lib.hid ((HBW.out.below HB.out).below hc2); have HC2 := Lib.hid hc2; clear hown2 hg2 hat2 hc2) | (go_at_call 140; have hcall := HIH.out (some ⟨g2, 0, none⟩) (some ⟨b0, o0, none⟩) (k + 1) c2 n c (j + 1) (bs ++ [x]) os w2 (by omega) hn8 (by omega) HL2.out HW2.out HFL.out HN.out HKM.out (fun h => (by cases h)); rw [← HCAST.out] at hcall; refine hcall.mono ?_; clear hcall; rintro e w4 ⟨A4, c4, rs4, rfl, hr4, hn4, hs4, hh4, hb4⟩; obtain ⟨b4, rfl, hp4⟩ := subs_some hn4 hs4 hr4 HPOS.out; have hc4 : Below wr.heap.size wr w4 := below_then HC2.out hb4 hs2; have hcx4 := (hc4.cell (p := ⟨b0, o0 + j, none⟩) (Nat.lt_of_lt_of_le HBL0.out hbs)).trans hcell; have hs4' : wr.heap.size ≤ w4.heap.size := hc4.size; have HR4 := Lib.hid hr4; have HH4 := Lib.hid (hh4.raise hs2); have HC4 := Lib.hid hc4; have HOA := Lib.hid (HH.out.below hc4).1; have HP4 := Lib.hid hp4; have HL4 : Hid (acc.length + rs4.length ≤ 256) := rows_le HAL.out hr4; have HM4 := Lib.hid (show acc.length + rs4.length ≤ maxLen from (by have := HL4.out; unfold maxLen; omega)); have HY4 := Lib.hid (show (acc.length + rs4.length) * 24 ≤ 140737488355328 from (by have := HL4.out; omega)); have HZ4 := Lib.hid (show w.heap.size ≤ w4.heap.size from (by omega)); clear hr4 hn4 hs4 hh4 hb4 hc4 hp4) | (refine step_append_lies _ rfl (.tmp 31) (.tmp 44) 32 rfl w.heap.size 22 i1 (.slice none 0 0) 1 24 Try.underlying32 RI.out RZ0.out RZ1.out RZ2.out rfl (by decide) (.slice E acc.length d) acc.length (rowVals acc) (by simp [Act.eval]) HOA.out ⟨b4, 0, none⟩ rs4.length c4 (rowVals rs4) (by simp [Act.eval]) (rows_len1 rs4) (heads_news HH4.out) (rowVals_one rs4) HP4.out HM4.out HY4.out HZ4.out w4.heap.size rfl ?_; intro g5 c5 w5 hown5 hg5 hat5 hlt5; have HJ := Lib.hid (Heads.join HH.out hbs HC4.out HH4.out hown5 hg5 hat5); have HB5 := Lib.hid ((below_then HB.out HC4.out hbs).grown hg5 HZ4.out (fun kk e => (HOA.out.lt kk e).1)); have hcx5 : w5.cell? ⟨b0, o0 + j, none⟩ = some (.int .i64 x) := (HB5.out.cell (p := ⟨b0, o0 + j, none⟩) HBL0.out).trans hcellw; clear hown5 hg5 hat5 hlt5) | fail)
              all_goals (go_wp2_with fail; go_meet)
              all_goals exact ⟨some ⟨g5, 0, none⟩, c5, acc ++ rs4, by rw [List.length_append], by rw [show rowNums (acc ++ rs4) = rowNums acc ++ rowNums rs4 by simp [rowNums], HR4.out]; exact HNX.out, fun h => (by cases h), fun a h => by obtain rfl := Option.some.inj h; exact ⟨rfl, by rw [List.length_append]; have := HP4.out; omega⟩, HJ.out, HB5.out⟩
            case rest =>
              obtain ⟨E', d', acc', rfl, r1, r2, r3, r4, r5⟩ := hcut
              have HR1 := Lib.hid r1
              have HR2 := Lib.hid r2
              have HR3 := Lib.hid r3
              have HR4 := Lib.hid r4
              have HR5 := Lib.hid r5
              clear r1 r2 r3 r4 r5
              go_wp2
              go_roundw
              case rel => exact ⟨j + 1, by omega, by omega, by go_num, E', d', acc', rfl, HR1.out, HR2.out, HR3.out, HR4.out, HR5.out⟩
              case measure => simp [intOf]; omega
          · obtain rfl : j = n := by omega
            have HR : Hid (rowNums acc = G) := by show _ = _; rw [← hac, List.drop_eq_nil_of_le (by have := HN.out; omega)]; simp [subs]
            have HH := Lib.hid hh
            have HEN := Lib.hid hEn
            have HES := Lib.hid hEs
            clear hac hh hEn hEs
            go_wp2
            go_ret
            exact ⟨E, d, acc, rfl, HR.out, HEN.out, HES.out, HH.out, hb⟩
end Go.Proofs.Ytlpeimlbpiofkaa

namespace Go.Proofs.Ytlpeimlbpiofkaa
open Go.RowKit

/-- What a call hands back that makes a list of lists and tells whether it did. -/
def BackPost (ls : List (List Int)) (ok : Bool) (w : World) (e : Ending) (w' : World) : Prop :=
  ∃ (A : Option Addr) (n c : Nat) (rs : List RowV), e = .returned (.tuple #[.slice A n c, .bool ok]) ∧ rowNums rs = ls ∧ rs.length = n ∧ FreeGrid w' w.heap.size w'.heap.size A rs ∧ Below w.heap.size w w'
theorem BackPost.no {w w' : World} (h : Below w.heap.size w w') : BackPost [] false w (.returned (.tuple #[.slice none 0 0, .bool false])) w' :=
  ⟨none, 0, 0, [], rfl, rfl, rfl, (Heads.nil w' w.heap.size).free, h⟩
theorem part_lens {w : World} {A : Option Addr} {rs : List RowV} (h : Grid w A rs) : part rs rs.length = ((rowNums rs).map List.length).sum := by
  rw [part_sum]
  have : ∀ ts : List RowV, (∀ r ∈ ts, r.xs.length = r.n) → ts.map RowV.n = (rowNums ts).map List.length := by
    intro ts ht
    simp only [rowNums, List.map_map]
    exact List.map_congr_left fun r hr => (ht r hr).symm
  rw [this rs fun r hr => (h.2 r hr).2.1]
theorem sum_lens {ls : List (List Int)} {k : Nat} (h : ∀ l ∈ ls, l.length ≤ k) : (ls.map List.length).sum ≤ k * ls.length := by
  induction ls with
  | nil => simp
  | cons l ls ih =>
    have h1 := h l (by simp)
    have h2 := ih fun x hx => h x (List.mem_cons_of_mem _ hx)
    rw [List.map_cons, List.sum_cons, List.length_cons, Nat.mul_succ]
    omega
end Go.Proofs.Ytlpeimlbpiofkaa

namespace Go.Proofs.Ytlpeimlbpiofkaa
open Go.RowKit

/-- All trips in a state. -/
def tripsIn (n : Nat) (s : Int) (bs : List Bool) (t : Bool) : List (List Int) := subs s.toNat (hereTo bs t n) []

set_option maxHeartbeats 3200000 in
set_option maxRecDepth 100000 in
theorem paTrips_any (A B : Option Addr) (n c m d q : Nat) (bs : List Bool) (t : Bool) (w : World) (hB : Holds w B (bits bs)) (hy : bs.length = m) (hm : m ≤ 8) (hq : q ≤ 8) :
    Calls Try.prog 113 #[.agg #[.slice A n c, .int .i64 q], .agg #[.slice B m d, .bool t]] w (SubsPost (subs q (hereTo bs t m) []) w) := by
  obtain ⟨i0, hi, hz0, hz1, hz2⟩ := info_parts info_int
  have HI := Lib.hid hi
  have HZ0 := Lib.hid hz0
  have HZ1 := Lib.hid hz1
  have HZ2 := Lib.hid hz2
  have HY := Lib.hid hy
  have h0 := (Whole.fresh w 28 #[.slice A n c, .int .i64 q]).alloc (.cells #[.slice B m d, .bool t] 44)
  have h1 := Whole.fresh (w.alloc (.cells #[.slice A n c, .int .i64 q] 28)) 44 #[.slice B m d, .bool t]
  rw [World.size_alloc] at h1
  have hbw := below2 w (.cells #[.slice A n c, .int .i64 q] 28) (.cells #[.slice B m d, .bool t] 44)
  have HBW := Lib.hid hbw
  have HH0 := Lib.hid h0
  have HH1 := Lib.hid h1
  obtain ⟨c0, c1, -, -⟩ := h0.two
  obtain ⟨e0, e1, -, -⟩ := h1.two
  clear hi hz0 hz1 hz2 hy hbw h0 h1
  go_enter Try.func113, Try.ntmps113
  go_wp2
  clear c0 c1 e0 e1
  go_loopw [5, 11] (fun v i wr => ∃ (k : Nat) (E : Option Addr) (r : Nat), k ≤ m ∧ i = .int .i64 k ∧ v = .slice E (hereTo bs t k).length r ∧ wr.ownsRow (w.heap.size + 2) 3 1 (.slice E (hereTo bs t k).length r) (hereTo bs t k).length (nums (hereTo bs t k)) ∧ Below (w.heap.size + 2) ((w.alloc (.cells #[.slice A n c, .int .i64 q] 28)).alloc (.cells #[.slice B m d, .bool t] 44)) wr) (fun _ i _ => m - (intOf i).toNat)
  case atStart => exact ⟨0, none, 0, Nat.zero_le _, rfl, rfl, World.ownsRow_nil _ _ _ _, Below.refl _ _⟩
  case round =>
    obtain ⟨k, E, r, hk, rfl, rfl, hown, hb⟩ := hrel
    have hb' : Below w.heap.size w wr := HBW.out.trans (hb.mono (by omega))
    have hhl := here_len bs t k
    obtain ⟨c0, c1, -, -⟩ := (HH0.out.below' hb (by omega)).two
    obtain ⟨e0, e1, -, -⟩ := (HH1.out.below' hb (by omega)).two
    have hs2 : w.heap.size + 2 ≤ wr.heap.size := by have := hb.size; simpa using this
    by_cases hlt : k < m
    · have hkb : k < bs.length := by have := HY.out; omega
      obtain ⟨b1, o1, rfl, hbl1, hcell⟩ := (hB.below hb').look (k := k) (by rw [bits_len]; exact hkb)
      simp only [bits, List.getElem_map] at hcell
      have hg : bs.getD k false = bs[k] := by simp [hkb]
      have hyes := here_yes (bs := bs) (t := t) (k := k)
      have hno := here_no (bs := bs) (t := t) (k := k)
      rw [hg] at hyes hno
      generalize bs[k] = x at hcell hyes hno
      clear hg
      have HOWN := Lib.hid hown
      have HB := Lib.hid hb
      clear hown hb hb'
      by_cases hxt : x = t
      · subst hxt
        have HS := Lib.hid (hyes (by simp))
        have HOW := Lib.hid (HOWN.out.alloc (.cells #[.int .i64 k] 3))
        have HBB := Lib.hid (HB.out.alloc (by simpa using hs2) (.cells #[.int .i64 k] 3))
        have HBASE := Lib.hid (show w.heap.size + 2 ≤ (wr.alloc (.cells #[.int .i64 k] 3)).heap.size by simp; omega)
        have HMAX := Lib.hid (show (hereTo bs x k).length + 1 ≤ maxLen by unfold maxLen; omega)
        have HBYT := Lib.hid (show ((hereTo bs x k).length + 1) * 8 ≤ 140737488355328 by omega)
        have HLEN : Hid ((hereTo bs x (k + 1)).length = (hereTo bs x k).length + 1) := by show _ = _; rw [HS.out]; simp
        clear hyes hno
        go_wp2_with (at_builtin; refine wpList_append_own _ rfl (.tmp 20) (.tmp 22) 22 rfl (w.heap.size + 2) 3 i0 (.int .i64 0) 1 8 Try.underlying22 HI.out HZ0.out HZ1.out HZ2.out rfl (by decide) (.slice E (hereTo bs x k).length r) (hereTo bs x k).length (nums (hereTo bs x k)) rfl HOW.out ⟨wr.heap.size, 0, none⟩ 1 1 [.int .i64 k] rfl rfl (cell_one_new _ _ _) (by simp [Value.oneCell']) HMAX.out HBYT.out HBASE.out ?_; intro v' w2 hown1 hg1 _; obtain ⟨D', q', hv', -⟩ := Fresh.of_own hown1 (Nat.le_refl _); rw [hv'] at hown1 ⊢; clear hv')
        have HBN := Lib.hid (HBB.out.grown hg1 HBASE.out (fun kk e => (HOW.out.lt _ e).1))
        have HON := Lib.hid hown1
        clear hg1 hown1
        go_roundw
        case rel => exact ⟨k + 1, D', q', by omega, by go_num, by rw [HLEN.out], by rw [HLEN.out, HS.out, show nums (hereTo bs x k ++ [(k : Int)]) = nums (hereTo bs x k) ++ [.int .i64 k] by simp [nums]]; exact HON.out, HBN.out⟩
        case measure => simp [intOf]; omega
      · have HS := Lib.hid (hno (by simpa using hxt))
        have hxf : (x == t) = false := by simpa using hxt
        clear hyes hno
        go_wp2
        go_roundw
        case rel => exact ⟨k + 1, E, r, by omega, by go_num, by rw [HS.out], by rw [HS.out]; exact HOWN.out, HB.out⟩
        case measure => simp [intOf]; omega
    · obtain rfl : k = m := by omega
      have HL := Lib.hid (here_len bs t k)
      have HHH := Lib.hid (holds_of_own hown)
      have hwz : w.heap.size ≤ wr.heap.size := by omega
      have HWZ := Lib.hid hwz
      have HB' := Lib.hid hb'
      clear hown hb hb' hwz
      go_wp2_with fail
      refine (paGroups_any q hq 10 none E 0 0 (hereTo bs t k).length r 0 [] (hereTo bs t k) _ (by omega) (by omega) (Nat.zero_le _) (Holds.empty _ _) HHH.out rfl rfl (Nat.zero_le _) (fun _ => ⟨rfl, rfl⟩)).mono ?_
      rintro e w4 ⟨A4, c4, rs4, rfl, hr4, hn4, hs4, hh4, hb4⟩
      have HR4 := Lib.hid hr4
      have HN4 := Lib.hid hn4
      have HS4 := Lib.hid hs4
      have HH4 := Lib.hid (hh4.raise HWZ.out)
      have HB4 := Lib.hid (below_then HB'.out hb4 HWZ.out)
      clear hr4 hn4 hs4 hh4 hb4 c0 c1 e0 e1
      go_wp2
      go_ret
      exact ⟨A4, c4, rs4, rfl, by rw [HR4.out]; rfl, HN4.out, HS4.out, HH4.out, HB4.out⟩
end Go.Proofs.Ytlpeimlbpiofkaa

namespace Go.Proofs.Ytlpeimlbpiofkaa
open Go.RowKit

theorem here_range (bs : List Bool) (t : Bool) (n : Nat) : hereTo bs t n = ((List.range n).map Int.ofNat).filter (fun k => bs.getD k.toNat false == t) := by
  rw [hereTo, List.filter_map]
  rfl
/-- The trips in a state are those of all lists of people whose people are where the torch is. -/
theorem trips_mem (n : Nat) (s : Int) (bs : List Bool) (t : Bool) (l : List Int) :
    l ∈ tripsIn n s bs t ↔ l ∈ subs s.toNat ((List.range n).map Int.ofNat) [] ∧ ∀ k ∈ l, bs.getD k.toNat false = t := by
  rw [tripsIn, subs_mem, subs_mem]
  constructor
  · rintro ⟨c, hc, hne, hs, hl⟩
    rw [List.nil_append] at hc
    subst hc
    rw [here_range] at hs
    refine ⟨⟨l, by simp, hne, hs.trans List.filter_sublist, hl⟩, fun k hk => ?_⟩
    have := hs.subset hk
    simpa using (List.mem_filter.1 this).2
  · rintro ⟨⟨c, hc, hne, hs, hl⟩, hall⟩
    rw [List.nil_append] at hc
    subst hc
    refine ⟨l, by simp, hne, ?_, hl⟩
    rw [here_range]
    have h := hs.filter (fun k => bs.getD k.toNat false == t)
    rwa [List.filter_eq_self.2 (fun k hk => by simpa using hall k hk)] at h
theorem trips_in (n : Nat) (s : Int) (bs : List Bool) (t : Bool) {l : List Int} (h : l ∈ tripsIn n s bs t) : l ≠ [] ∧ ∀ k ∈ l, 0 ≤ k ∧ k < n := by
  rw [trips_mem, subs_mem] at h
  obtain ⟨⟨c, hc, hne, hs, -⟩, -⟩ := h
  rw [List.nil_append] at hc
  subst hc
  refine ⟨hne, fun k hk => ?_⟩
  have := hs.subset hk
  simp only [List.mem_map, List.mem_range] at this
  obtain ⟨j, hj, rfl⟩ := this
  exact ⟨Int.natCast_nonneg j, by show (j : Int) < n; omega⟩
theorem flipped_twice (bs : List Bool) (l : List Int) : flipped (flipped bs l) l = bs := by
  refine List.ext_getElem? fun i => ?_
  by_cases h : i < bs.length
  · rw [flipped_at _ l (by rw [flipped_len]; exact h), flipped_get bs l h, List.getElem?_eq_getElem h]
    have : bs.getD i false = bs[i] := by simp [h]
    rw [this]
    cases bs[i] <;> cases has l i <;> rfl
  · rw [List.getElem?_eq_none (by rw [flipped_len, flipped_len]; omega), List.getElem?_eq_none (by omega)]
/-- A trip of a party of n from a place to a place, with its time. -/
def Leg (xs : List Int) (n : Nat) (s : Int) (a : List Bool × Bool) (t : Int) (b : List Bool × Bool) : Prop :=
  a.1.length = n ∧ ∃ l, l ∈ tripsIn n s a.1 a.2 ∧ t = slowOf xs l ∧ b = (flipped a.1 l, !a.2)
theorem leg_back {xs : List Int} {n : Nat} {s t : Int} {a b : List Bool × Bool} (h : Leg xs n s a t b) : Leg xs n s b t a := by
  obtain ⟨hn, l, hl, rfl, rfl⟩ := h
  obtain ⟨bs, o⟩ := a
  dsimp only at hn hl
  refine ⟨by rw [flipped_len]; exact hn, l, ?_, rfl, by rw [flipped_twice, Bool.not_not]⟩
  have hin := (trips_in n s bs o hl).2
  rw [trips_mem] at hl ⊢
  refine ⟨hl.1, fun k hk => ?_⟩
  have hb := hin k hk
  show (flipped bs l).getD k.toNat false = !o
  rw [flipped_get bs l (by omega), hl.2 k hk]
  have : has l k.toNat = true := has_iff.2 (by rw [Int.toNat_of_nonneg hb.1]; exact hk)
  rw [this]
  cases o <;> rfl
theorem foldl_max (f : List Int) (a : Int) : a ≤ f.foldl max a ∧ ∀ x ∈ f, x ≤ f.foldl max a := by
  induction f generalizing a with
  | nil => exact ⟨Int.le_refl _, fun _ h => by cases h⟩
  | cons y f ih =>
    obtain ⟨h1, h2⟩ := ih (max a y)
    refine ⟨by have := h1; simp only [List.foldl_cons]; omega, fun x hx => ?_⟩
    rcases List.mem_cons.1 hx with rfl | hx
    · simp only [List.foldl_cons]; omega
    · exact h2 x hx
theorem leg_time {xs : List Int} {n : Nat} {s t : Int} {a b : List Bool × Bool} (hx : xs.length = n) (hxs : ∀ y ∈ xs, 1 ≤ y) (h : Leg xs n s a t b) : 1 ≤ t := by
  obtain ⟨-, l, hl, rfl, -⟩ := h
  obtain ⟨hne, hin⟩ := trips_in n s a.1 a.2 hl
  obtain ⟨k, r, rfl⟩ := List.exists_cons_of_ne_nil hne
  have hk := hin k (by simp)
  have hkx : k.toNat < xs.length := by omega
  have h1 := hxs _ (List.getElem_mem hkx)
  have h2 := (foldl_max ((k :: r).map fun k => xs.getD k.toNat 0) 0).2 (xs.getD k.toNat 0) (by simp)
  have h3 : xs.getD k.toNat 0 = xs[k.toNat] := by simp [hkx]
  rw [h3] at h2
  exact Int.le_trans h1 h2
/-- From one state to another it takes as long as back, however each is searched for. -/
theorem leg_turn {xs : List Int} {n : Nat} {s : Int} {a b : List Bool × Bool} {da db : List Bool × Bool → Option Int} (hx : xs.length = n) (hxs : ∀ y ∈ xs, 1 ≤ y) (ha : Least (Leg xs n s) a da) (hb : Least (Leg xs n s) b db) : da b = db a :=
  least_turn (fun _ _ _ h => leg_time hx hxs h) (fun _ _ _ h => leg_back h) ha hb
end Go.Proofs.Ytlpeimlbpiofkaa

namespace Go.Proofs.Ytlpeimlbpiofkaa
open Go.RowKit

theorem own_place {w : World} {base g : Nat} {e : TypeId} {size : Nat} {v : Value} {n : Nat} {xs : List Value} {v0 v1 v2 v3 v4 v5 v6 v7 v8 : Value} (h : w.ownsRow base e size v n xs) (hg : g < base) :
    World.ownsRow (((((((((w.setCell ⟨g, 0, none⟩ v0).setCell ⟨g, 1, none⟩ v1).setCell ⟨g, 2, none⟩ v2).setCell ⟨g, 3, none⟩ v3).setCell ⟨g, 4, none⟩ v4).setCell ⟨g, 5, none⟩ v5).setCell ⟨g, 6, none⟩ v6).setCell ⟨g, 7, none⟩ v7).setCell ⟨g, 8, none⟩ v8) base e size v n xs :=
  ownsRow_setCell_below (ownsRow_setCell_below (ownsRow_setCell_below (ownsRow_setCell_below (ownsRow_setCell_below (ownsRow_setCell_below (ownsRow_setCell_below (ownsRow_setCell_below (ownsRow_setCell_below h hg _) hg _) hg _) hg _) hg _) hg _) hg _) hg _) hg _

/-- What walk hands back. -/
def WalkPost (n : Nat) (s : Int) (bs : List Bool) (t : Bool) (ls : List (List Int)) (w : World) (e : Ending) (w' : World) : Prop :=
  ∃ (T : Option Addr) (c : Nat), e = .returned (.tuple #[.slice T (made n s bs t ls) c, .agg (placeCells (ended n s bs t ls).1 (ended n s bs t ls).2)]) ∧ w'.ownsRow (w.heap.size + 1 + 1 + 1) 73 8 (.slice T (made n s bs t ls) c) (made n s bs t ls) (crowdsOf (ls.take (made n s bs t ls))) ∧ Below w.heap.size w w'

end Go.Proofs.Ytlpeimlbpiofkaa

namespace Go.Proofs.Ytlpeimlbpiofkaa
open Go.RowKit

def asked (xs : List Int) (n : Nat) (s : Int) (bs : List Bool) (t : Bool) : Bool := isParty xs s && isState n bs t
noncomputable def failOk (xs : List Int) (n : Nat) (s : Int) (bs : List Bool) (t : Bool) (ls : List (List Int)) : Bool := asked xs n s bs t && (decide (ls.length ≤ 40) && decide (made n s bs t ls ≠ ls.length))
noncomputable def failAt (xs : List Int) (n : Nat) (s : Int) (bs : List Bool) (t : Bool) (ls : List (List Int)) : Int := if failOk xs n s bs t ls then made n s bs t ls else 0
theorem fail_no {xs : List Int} {n : Nat} {s : Int} {bs : List Bool} {t : Bool} {ls : List (List Int)} (h : asked xs n s bs t = false ∨ 40 < ls.length ∨ made n s bs t ls = ls.length) : failOk xs n s bs t ls = false ∧ failAt xs n s bs t ls = 0 := by
  have h0 : failOk xs n s bs t ls = false := by
    rcases h with h | h | h
    · simp [failOk, h]
    · simp [failOk]; omega
    · simp [failOk, h]
  exact ⟨h0, by simp [failAt, h0]⟩
theorem fail_yes {xs : List Int} {n : Nat} {s : Int} {bs : List Bool} {t : Bool} {ls : List (List Int)} (h : asked xs n s bs t = true) (h40 : ls.length ≤ 40) (hm : made n s bs t ls ≠ ls.length) : failOk xs n s bs t ls = true ∧ failAt xs n s bs t ls = made n s bs t ls := by
  have h0 : failOk xs n s bs t ls = true := by simp [failOk, h, h40, hm]
  exact ⟨h0, by simp [failAt, h0]⟩
theorem asked_len {xs : List Int} {n : Nat} {s : Int} {bs : List Bool} {t : Bool} (h : asked xs n s bs t = true) (hx : xs.length = n) : n ≤ 8 ∧ 0 < n ∧ bs.length = n := by
  simp only [asked, Bool.and_eq_true, isState, decide_eq_true_eq] at h
  have h1 := isParty_le h.1
  refine ⟨by omega, ?_, h.2.1⟩
  have h2 := h.1
  simp only [isParty, Bool.and_eq_true] at h2
  have := (within_iff.1 h2.1).1
  omega

/-- What TripThatFails hands back. -/
def FailPost (v : Int) (ok : Bool) (w : World) (e : Ending) (w' : World) : Prop := e = .returned (.tuple #[.int .i64 v, .bool ok]) ∧ Below w.heap.size w w'

end Go.Proofs.Ytlpeimlbpiofkaa

namespace Go.Proofs.Ytlpeimlbpiofkaa

/-- A list of truth values behind a number, as digits. -/
def num (bs : List Bool) (a : Nat) : Nat := bs.foldl (fun n b => 2 * n + b.toNat) a
theorem num_snoc (bs : List Bool) (b : Bool) (a : Nat) : num (bs ++ [b]) a = 2 * num bs a + b.toNat := by simp [num, List.foldl_append]
theorem num_cons (bs : List Bool) (b : Bool) (a : Nat) : num (b :: bs) a = num bs (2 * a + b.toNat) := rfl
theorem num_parts (bs : List Bool) : ∀ a, ∃ r, num bs a = a * 2 ^ bs.length + r ∧ r < 2 ^ bs.length := by
  induction bs with
  | nil => exact fun a => ⟨0, by simp [num], by simp⟩
  | cons b bs ih =>
    intro a
    obtain ⟨r, h1, h2⟩ := ih (2 * a + b.toNat)
    refine ⟨b.toNat * 2 ^ bs.length + r, ?_, ?_⟩
    · rw [num_cons, h1, List.length_cons, Nat.pow_succ, Nat.add_mul, Nat.mul_comm (2 ^ bs.length) 2, ← Nat.mul_assoc, Nat.mul_comm a 2, Nat.add_assoc]
    · rw [List.length_cons, Nat.pow_succ]
      cases b
      · simp; omega
      · simp; omega
theorem num_head (bs : List Bool) (a : Nat) : num bs a / 2 ^ bs.length = a := by
  obtain ⟨r, h1, h2⟩ := num_parts bs a
  rw [h1, Nat.mul_comm, Nat.mul_add_div (Nat.two_pow_pos _), Nat.div_eq_of_lt h2, Nat.add_zero]
theorem num_lt (bs : List Bool) (b : Bool) : num bs b.toNat < 2 ^ (bs.length + 1) := by
  obtain ⟨r, h1, h2⟩ := num_parts bs b.toNat
  rw [h1, Nat.pow_succ]
  cases b
  · simp; omega
  · simp; omega
/-- The digit of a person. -/
theorem num_digit (bs : List Bool) : ∀ (a k : Nat) (h : k < bs.length), num bs a / 2 ^ (bs.length - 1 - k) % 2 = bs[k].toNat := by
  induction bs with
  | nil => intro a k h; simp at h
  | cons b bs ih =>
    intro a k h
    rw [num_cons]
    cases k with
    | zero =>
      have : (b :: bs).length - 1 - 0 = bs.length := by simp
      rw [this, num_head]
      cases b <;> simp <;> omega
    | succ k =>
      have hk : k < bs.length := by simpa using h
      have : (b :: bs).length - 1 - (k + 1) = bs.length - 1 - k := by simp; omega
      rw [this, ih _ k hk]
      simp
/-- The digits of a number, n of them. -/
def digits (n i : Nat) : List Bool := (List.range n).map fun k => decide (i / 2 ^ (n - 1 - k) % 2 = 1)
theorem digits_len (n i : Nat) : (digits n i).length = n := by simp [digits]
theorem digits_num (bs : List Bool) (a : Nat) : digits bs.length (num bs a) = bs := by
  refine List.ext_getElem (digits_len _ _) fun k h1 h2 => ?_
  simp only [digits, List.getElem_map, List.getElem_range]
  rw [num_digit bs a k h2]
  cases bs[k] <;> rfl
theorem digits_succ (n i : Nat) : digits (n + 1) i = digits n (i / 2) ++ [decide (i % 2 = 1)] := by
  rw [digits, List.range_succ, List.map_append, digits]
  congr 1
  · refine List.map_congr_left fun k hk => ?_
    have hk := List.mem_range.1 hk
    rw [Nat.div_div_eq_div_mul, show n + 1 - 1 - k = n - 1 - k + 1 by omega, Nat.pow_succ, Nat.mul_comm (2 ^ (n - 1 - k)) 2]
  · simp
theorem num_digits : ∀ (n i : Nat), num (digits n i) (i / 2 ^ n) = i := by
  intro n
  induction n with
  | zero => intro i; simp [digits, num]
  | succ n ih =>
    intro i
    rw [digits_succ, num_snoc, show i / 2 ^ (n + 1) = i / 2 / 2 ^ n by rw [Nat.pow_succ, Nat.mul_comm, Nat.div_div_eq_div_mul], ih (i / 2)]
    rcases Nat.mod_two_eq_zero_or_one i with h | h <;> simp [h] <;> omega
end Go.Proofs.Ytlpeimlbpiofkaa

namespace Go.Proofs.Ytlpeimlbpiofkaa

/-- One trip of a round: to the place e.1 in the time e.2 from a place reached in m. -/
def relax1 (m : Int) (o : List Int) (e : Nat × Int) : List Int := if o.getD e.1 (-1) < 0 ∨ m + e.2 < o.getD e.1 (-1) then o.set e.1 (m + e.2) else o
/-- All trips of a round. -/
def relax (m : Int) (es : List (Nat × Int)) (o : List Int) : List Int := es.foldl (relax1 m) o
theorem relax1_len (m : Int) (o : List Int) (e : Nat × Int) : (relax1 m o e).length = o.length := by
  unfold relax1
  split <;> simp
theorem relax_snoc (m : Int) (es : List (Nat × Int)) (o : List Int) (e : Nat × Int) : relax m (es ++ [e]) o = relax1 m (relax m es o) e := by simp [relax, List.foldl_append]
theorem relax_len (m : Int) (es : List (Nat × Int)) : ∀ o, (relax m es o).length = o.length := by
  induction es with
  | nil => exact fun o => rfl
  | cons e es ih =>
    intro o
    show (relax m es (relax1 m o e)).length = _
    rw [ih, relax1_len]
theorem relax1_at (m : Int) (o : List Int) (e : Nat × Int) (y : Nat) (hy : y < o.length) :
    (relax1 m o e).getD y (-1) = if y = e.1 ∧ (o.getD e.1 (-1) < 0 ∨ m + e.2 < o.getD e.1 (-1)) then m + e.2 else o.getD y (-1) := by
  unfold relax1
  by_cases h : o.getD e.1 (-1) < 0 ∨ m + e.2 < o.getD e.1 (-1)
  · rw [if_pos h]
    by_cases hye : y = e.1
    · subst hye
      rw [if_pos ⟨rfl, h⟩]
      simp [List.getD_eq_getElem?_getD, hy]
    · rw [if_neg (fun hh => hye hh.1)]
      simp only [List.getD_eq_getElem?_getD, List.getElem?_set_ne (fun hh => hye hh.symm)]
  · rw [if_neg h, if_neg (fun hh => h hh.2)]
/-- No time rises. -/
theorem relax_still {m : Int} (hm : 0 ≤ m) : ∀ (es : List (Nat × Int)) (o : List Int) (y : Nat), (∀ e ∈ es, 0 ≤ e.2) → y < o.length → 0 ≤ o.getD y (-1) → 0 ≤ (relax m es o).getD y (-1) ∧ (relax m es o).getD y (-1) ≤ o.getD y (-1) := by
  intro es
  induction es with
  | nil => exact fun o y _ _ h => ⟨h, Int.le_refl _⟩
  | cons e es ih =>
    intro o y hes hy h0
    have he := hes e (by simp)
    have h1 : 0 ≤ (relax1 m o e).getD y (-1) ∧ (relax1 m o e).getD y (-1) ≤ o.getD y (-1) := by
      rw [relax1_at m o e y hy]
      split
      · rename_i hc
        obtain ⟨rfl, hc⟩ := hc
        omega
      · exact ⟨h0, Int.le_refl _⟩
    obtain ⟨h2, h3⟩ := ih (relax1 m o e) y (fun e he => hes e (by simp [he])) (by rw [relax1_len]; exact hy) h1.1
    exact ⟨h2, Int.le_trans h3 h1.2⟩
/-- Each trip's place is reached in no more than its time. -/
theorem relax_to {m : Int} (hm : 0 ≤ m) : ∀ (es : List (Nat × Int)) (o : List Int) (e : Nat × Int), (∀ e ∈ es, 0 ≤ e.2 ∧ e.1 < o.length) → e ∈ es → 0 ≤ (relax m es o).getD e.1 (-1) ∧ (relax m es o).getD e.1 (-1) ≤ m + e.2 := by
  intro es
  induction es with
  | nil => intro o e _ h; cases h
  | cons a es ih =>
    intro o e hes he
    rcases List.mem_cons.1 he with rfl | he
    · have h0 := hes e (by simp)
      have h1 : 0 ≤ (relax1 m o e).getD e.1 (-1) ∧ (relax1 m o e).getD e.1 (-1) ≤ m + e.2 := by
        rw [relax1_at m o e e.1 h0.2]
        split
        · omega
        · rename_i hc
          have : ¬ (o.getD e.1 (-1) < 0 ∨ m + e.2 < o.getD e.1 (-1)) := fun h => hc ⟨rfl, h⟩
          omega
      obtain ⟨h2, h3⟩ := relax_still hm es (relax1 m o e) e.1 (fun x hx => (hes x (by simp [hx])).1) (by rw [relax1_len]; exact h0.2) h1.1
      exact ⟨h2, Int.le_trans h3 h1.2⟩
    · exact ih (relax1 m o a) e (fun x hx => by rw [relax1_len]; exact hes x (by simp [hx])) he
/-- A time stays, or is that of a trip. -/
theorem relax_from (m : Int) : ∀ (es : List (Nat × Int)) (o : List Int) (y : Nat), y < o.length → (relax m es o).getD y (-1) = o.getD y (-1) ∨ ∃ e, e ∈ es ∧ e.1 = y ∧ (relax m es o).getD y (-1) = m + e.2 := by
  intro es
  induction es with
  | nil => exact fun o y _ => .inl rfl
  | cons a es ih =>
    intro o y hy
    rcases ih (relax1 m o a) y (by rw [relax1_len]; exact hy) with h | ⟨e, he, h1, h2⟩
    · have hr : (relax m (a :: es) o).getD y (-1) = (relax1 m o a).getD y (-1) := h
      rw [hr, relax1_at m o a y hy]
      split
      · rename_i hc
        exact .inr ⟨a, by simp, hc.1.symm, rfl⟩
      · exact .inl rfl
    · exact .inr ⟨e, by simp [he], h1, h2⟩
end Go.Proofs.Ytlpeimlbpiofkaa

namespace Go.Proofs.Ytlpeimlbpiofkaa
open Go.RowKit

/-- The number of a state. -/
def numS (a : List Bool × Bool) : Nat := num a.1 a.2.toNat
/-- The state with a number. -/
def stateS (n i : Nat) : List Bool × Bool := (digits n i, decide (i / 2 ^ n = 1))
theorem numS_lt {a : List Bool × Bool} {n : Nat} (h : a.1.length = n) : numS a < 2 ^ (n + 1) := by
  subst h
  exact num_lt a.1 a.2
theorem stateS_num {a : List Bool × Bool} {n : Nat} (h : a.1.length = n) : stateS n (numS a) = a := by
  subst h
  obtain ⟨bs, t⟩ := a
  rw [stateS, numS, digits_num, num_head]
  cases t <;> rfl
theorem numS_state {n i : Nat} (h : i < 2 ^ (n + 1)) : numS (stateS n i) = i := by
  have h2 : i / 2 ^ n < 2 := by
    rw [Nat.div_lt_iff_lt_mul (Nat.two_pow_pos n), ← Nat.pow_succ']
    exact h
  have h3 : (decide (i / 2 ^ n = 1)).toNat = i / 2 ^ n := by
    generalize i / 2 ^ n = q at h2
    rcases (show q = 0 ∨ q = 1 by omega) with e | e <;> simp [e]
  rw [stateS, numS, h3]
  exact num_digits n i
theorem stateS_len (n i : Nat) : (stateS n i).1.length = n := digits_len n i

/-- What is settled, and what waits. -/
def settledS (n : Nat) (done : List Bool) (o : List Int) (a : List Bool × Bool) : Option Int := if a.1.length = n ∧ done.getD (numS a) false = true then some (o.getD (numS a) (-1)) else none
def waitsS (n : Nat) (done : List Bool) (o : List Int) (a : List Bool × Bool) : Option Int := if a.1.length = n ∧ done.getD (numS a) false = false ∧ 0 ≤ o.getD (numS a) (-1) then some (o.getD (numS a) (-1)) else none
theorem settled_iff {n : Nat} {done : List Bool} {o : List Int} {a : List Bool × Bool} {b : Int} : settledS n done o a = some b ↔ a.1.length = n ∧ done.getD (numS a) false = true ∧ o.getD (numS a) (-1) = b := by
  unfold settledS
  split
  · rename_i h
    constructor
    · intro hh
      exact ⟨h.1, h.2, Option.some.inj hh⟩
    · rintro ⟨-, -, rfl⟩; rfl
  · rename_i h
    constructor
    · intro hh; cases hh
    · rintro ⟨h1, h2, -⟩; exact absurd ⟨h1, h2⟩ h
theorem waits_iff {n : Nat} {done : List Bool} {o : List Int} {a : List Bool × Bool} {b : Int} : waitsS n done o a = some b ↔ a.1.length = n ∧ done.getD (numS a) false = false ∧ 0 ≤ b ∧ o.getD (numS a) (-1) = b := by
  unfold waitsS
  split
  · rename_i h
    constructor
    · intro hh
      obtain rfl := Option.some.inj hh
      exact ⟨h.1, h.2.1, h.2.2, rfl⟩
    · rintro ⟨-, -, -, rfl⟩; rfl
  · rename_i h
    constructor
    · intro hh; cases hh
    · rintro ⟨h1, h2, h3, rfl⟩; exact absurd ⟨h1, h2, h3⟩ h
/-- The trips of a round, by the numbers of the states to which they lead. -/
def legsS (xs : List Int) (n : Nat) (s : Int) (a : List Bool × Bool) : List (Nat × Int) := (tripsIn n s a.1 a.2).map fun l => (numS (flipped a.1 l, !a.2), slowOf xs l)
/-- A time that is no greater than the round's stays. -/
theorem relax_low {m : Int} : ∀ (es : List (Nat × Int)) (o : List Int) (y : Nat), (∀ e ∈ es, 0 ≤ e.2) → y < o.length → 0 ≤ o.getD y (-1) → o.getD y (-1) ≤ m → (relax m es o).getD y (-1) = o.getD y (-1) := by
  intro es
  induction es with
  | nil => exact fun o y _ _ _ _ => rfl
  | cons e es ih =>
    intro o y hes hy h0 hm
    have he := hes e (by simp)
    have h1 : (relax1 m o e).getD y (-1) = o.getD y (-1) := by
      rw [relax1_at m o e y hy]
      split
      · rename_i hc
        obtain ⟨rfl, hc⟩ := hc
        omega
      · rfl
    have h2 := ih (relax1 m o e) y (fun e he => hes e (by simp [he])) (by rw [relax1_len]; exact hy) (by rw [h1]; exact h0) (by rw [h1]; exact hm)
    exact h2.trans h1
theorem getD_set_bool (d : List Bool) (i j : Nat) (h : i < d.length) : (d.set i true).getD j false = if j = i then true else d.getD j false := by
  by_cases e : j = i
  · subst e
    simp [List.getD_eq_getElem?_getD, h]
  · rw [if_neg e]
    simp only [List.getD_eq_getElem?_getD, List.getElem?_set_ne (fun hh => e hh.symm)]

theorem round_of {xs : List Int} {n : Nat} {s : Int} {done : List Bool} {o : List Int} {i : Nat} {src : List Bool × Bool} (hx : xs.length = n) (hxs : ∀ y ∈ xs, 1 ≤ y) (hd : done.length = 2 ^ (n + 1)) (ho : o.length = 2 ^ (n + 1)) (hi : i < 2 ^ (n + 1))
    (hdi : done.getD i false = false) (hoi : 0 ≤ o.getD i (-1)) (hleast : ∀ j, j < 2 ^ (n + 1) → done.getD j false = false → 0 ≤ o.getD j (-1) → o.getD i (-1) ≤ o.getD j (-1))
    (hk : Seek (Leg xs n s) src (settledS n done o) (waitsS n done o)) :
    SeekRound (Leg xs n s) (settledS n done o) (waitsS n done o) (· = stateS n i) (o.getD i (-1)) (settledS n (done.set i true) (relax (o.getD i (-1)) (legsS xs n s (stateS n i)) o)) (waitsS n (done.set i true) (relax (o.getD i (-1)) (legsS xs n s (stateS n i)) o)) := by
  have hnum := numS_state hi
  have hlen := stateS_len n i
  have hw : waitsS n done o (stateS n i) = some (o.getD i (-1)) := waits_iff.2 ⟨hlen, by rw [hnum]; exact hdi, hoi, by rw [hnum]⟩
  have hes : ∀ e ∈ legsS xs n s (stateS n i), 0 ≤ e.2 ∧ e.1 < o.length := by
    intro e he
    simp only [legsS, List.mem_map] at he
    obtain ⟨l, hl, rfl⟩ := he
    have h1 := leg_time hx hxs (show Leg xs n s (stateS n i) (slowOf xs l) (flipped (stateS n i).1 l, !(stateS n i).2) from ⟨hlen, l, hl, rfl, rfl⟩)
    refine ⟨by show 0 ≤ slowOf xs l; omega, ?_⟩
    rw [ho]
    exact numS_lt (by show (flipped _ _).length = n; rw [flipped_len]; exact hlen)
  have hes0 : ∀ e ∈ legsS xs n s (stateS n i), 0 ≤ e.2 := fun e he => (hes e he).1
  have hset := fun j => getD_set_bool done i j (by rw [hd]; exact hi)
  have hne : ∀ a : List Bool × Bool, a.1.length = n → a ≠ stateS n i → numS a ≠ i := fun a ha h e => h (by rw [← stateS_num ha, e])
  have hat : ∀ a : List Bool × Bool, a.1.length = n → numS a < o.length := fun a ha => by rw [ho]; exact numS_lt ha
  have hsame : ∀ a : List Bool × Bool, a.1.length = n → done.getD (numS a) false = true → (relax (o.getD i (-1)) (legsS xs n s (stateS n i)) o).getD (numS a) (-1) = o.getD (numS a) (-1) := fun a ha hda => by
    have hs : settledS n done o a = some (o.getD (numS a) (-1)) := settled_iff.2 ⟨ha, hda, rfl⟩
    exact relax_low _ o _ hes0 (hat a ha) (hk.low a _ (.inl hs)) (hk.far a _ _ _ hs hw)
  refine ⟨fun y b hy => ?_, fun x h => ?_, ⟨_, rfl⟩, fun x h => ?_, fun x h => ?_, fun x a h => ?_, fun x t y h he hr => ?_, fun y b hy hr => ?_, fun y b hy => ?_⟩
  · obtain ⟨h1, h2, h3, h4⟩ := waits_iff.1 hy
    rw [← h4]
    exact hleast _ (numS_lt h1) h2 (by rw [h4]; exact h3)
  · obtain rfl := h
    exact hw
  · obtain rfl := h
    refine settled_iff.2 ⟨hlen, by rw [hset, hnum, if_pos rfl], ?_⟩
    rw [hnum]
    exact relax_low _ o _ hes0 (by rw [ho]; exact hi) hoi (Int.le_refl _)
  · by_cases hl : x.1.length = n
    · unfold settledS
      rw [hset, if_neg (hne x hl h)]
      by_cases hdx : done.getD (numS x) false = true
      · rw [if_pos ⟨hl, hdx⟩, if_pos ⟨hl, hdx⟩, hsame x hl hdx]
      · rw [if_neg (fun hh => hdx hh.2), if_neg (fun hh => hdx hh.2)]
    · unfold settledS
      rw [if_neg (fun hh => hl hh.1), if_neg (fun hh => hl hh.1)]
  · obtain ⟨-, h2, -⟩ := settled_iff.1 h
    unfold waitsS
    rw [if_neg (fun hh => by rw [h2] at hh; exact absurd hh.2.1 (by simp))]
  · obtain rfl := h
    obtain ⟨-, l, hl, rfl, rfl⟩ := he
    have hyl : (flipped (stateS n i).1 l).length = n := by rw [flipped_len]; exact hlen
    have hto := relax_to hoi _ o (numS (flipped (stateS n i).1 l, !(stateS n i).2), slowOf xs l) hes (List.mem_map.2 ⟨l, hl, rfl⟩)
    have hdn : (done.set i true).getD (numS (flipped (stateS n i).1 l, !(stateS n i).2)) false = false := by
      cases hc : (done.set i true).getD (numS (flipped (stateS n i).1 l, !(stateS n i).2)) false
      · rfl
      · rw [settled_iff.2 ⟨hyl, hc, rfl⟩] at hr
        cases hr
    exact ⟨_, waits_iff.2 ⟨hyl, hdn, hto.1, rfl⟩, hto.2⟩
  · obtain ⟨h1, h2, h3, h4⟩ := waits_iff.1 hy
    have hst := relax_still hoi (legsS xs n s (stateS n i)) o (numS y) hes0 (hat y h1) (by rw [h4]; exact h3)
    have hdn : (done.set i true).getD (numS y) false = false := by
      cases hc : (done.set i true).getD (numS y) false
      · rfl
      · rw [settled_iff.2 ⟨h1, hc, rfl⟩] at hr
        cases hr
    exact ⟨_, waits_iff.2 ⟨h1, hdn, hst.1, rfl⟩, by rw [← h4]; exact hst.2⟩
  · obtain ⟨h1, h2, h3, h4⟩ := waits_iff.1 hy
    have hdy : done.getD (numS y) false = false := by
      rw [hset] at h2
      split at h2
      · cases h2
      · exact h2
    rcases relax_from (o.getD i (-1)) (legsS xs n s (stateS n i)) o (numS y) (hat y h1) with h5 | ⟨e, he, h5, h6⟩
    · refine .inl ⟨waits_iff.2 ⟨h1, hdy, h3, by rw [← h5]; exact h4⟩, ?_⟩
      unfold settledS
      rw [if_neg (fun hh => by rw [h2] at hh; exact absurd hh.2 (by simp))]
    · simp only [legsS, List.mem_map] at he
      obtain ⟨l, hl, rfl⟩ := he
      refine .inr ⟨_, slowOf xs l, rfl, ⟨hlen, l, hl, rfl, ?_⟩, by rw [← h4]; exact h6⟩
      have h7 : (flipped (stateS n i).1 l).length = n := by rw [flipped_len]; exact hlen
      rw [← stateS_num h1, ← h5]
      exact stateS_num h7
end Go.Proofs.Ytlpeimlbpiofkaa

namespace Go.Proofs.Ytlpeimlbpiofkaa

/-- A ride from one state to another, with what it costs. -/
def LegW (L : List (List Int)) (C : List Int → Int) (n : Nat) (a : List Bool × Bool) (t : Int) (b : List Bool × Bool) : Prop :=
  a.1.length = n ∧ ∃ l, l ∈ ridesAt a.1 a.2 L ∧ t = C l ∧ b = (flipped a.1 l, !a.2)
theorem legW_time {L : List (List Int)} {C : List Int → Int} {n : Nat} {a b : List Bool × Bool} {t : Int} (hC : ∀ l ∈ L, 1 ≤ C l) (h : LegW L C n a t b) : 1 ≤ t := by
  obtain ⟨-, l, hl, rfl, -⟩ := h
  exact hC l (List.mem_filter.1 hl).1
/-- The rides of a round, by the numbers of the states to which they lead. -/
def legsW (L : List (List Int)) (C : List Int → Int) (a : List Bool × Bool) : List (Nat × Int) := (ridesAt a.1 a.2 L).map fun l => (numS (flipped a.1 l, !a.2), C l)
theorem round_ofW {L : List (List Int)} {C : List Int → Int} {n : Nat} {done : List Bool} {o : List Int} {i : Nat} {src : List Bool × Bool} (hC : ∀ l ∈ L, 1 ≤ C l) (hd : done.length = 2 ^ (n + 1)) (ho : o.length = 2 ^ (n + 1)) (hi : i < 2 ^ (n + 1))
    (hdi : done.getD i false = false) (hoi : 0 ≤ o.getD i (-1)) (hleast : ∀ j, j < 2 ^ (n + 1) → done.getD j false = false → 0 ≤ o.getD j (-1) → o.getD i (-1) ≤ o.getD j (-1))
    (hk : Seek (LegW L C n) src (settledS n done o) (waitsS n done o)) :
    SeekRound (LegW L C n) (settledS n done o) (waitsS n done o) (· = stateS n i) (o.getD i (-1)) (settledS n (done.set i true) (relax (o.getD i (-1)) (legsW L C (stateS n i)) o)) (waitsS n (done.set i true) (relax (o.getD i (-1)) (legsW L C (stateS n i)) o)) := by
  have hnum := numS_state hi
  have hlen := stateS_len n i
  have hw : waitsS n done o (stateS n i) = some (o.getD i (-1)) := waits_iff.2 ⟨hlen, by rw [hnum]; exact hdi, hoi, by rw [hnum]⟩
  have hes : ∀ e ∈ legsW L C (stateS n i), 0 ≤ e.2 ∧ e.1 < o.length := by
    intro e he
    simp only [legsW, List.mem_map] at he
    obtain ⟨l, hl, rfl⟩ := he
    have h1 := legW_time hC (show LegW L C n (stateS n i) (C l) (flipped (stateS n i).1 l, !(stateS n i).2) from ⟨hlen, l, hl, rfl, rfl⟩)
    refine ⟨by show 0 ≤ C l; omega, ?_⟩
    rw [ho]
    exact numS_lt (by show (flipped _ _).length = n; rw [flipped_len]; exact hlen)
  have hes0 : ∀ e ∈ legsW L C (stateS n i), 0 ≤ e.2 := fun e he => (hes e he).1
  have hset := fun j => getD_set_bool done i j (by rw [hd]; exact hi)
  have hne : ∀ a : List Bool × Bool, a.1.length = n → a ≠ stateS n i → numS a ≠ i := fun a ha h e => h (by rw [← stateS_num ha, e])
  have hat : ∀ a : List Bool × Bool, a.1.length = n → numS a < o.length := fun a ha => by rw [ho]; exact numS_lt ha
  have hsame : ∀ a : List Bool × Bool, a.1.length = n → done.getD (numS a) false = true → (relax (o.getD i (-1)) (legsW L C (stateS n i)) o).getD (numS a) (-1) = o.getD (numS a) (-1) := fun a ha hda => by
    have hs : settledS n done o a = some (o.getD (numS a) (-1)) := settled_iff.2 ⟨ha, hda, rfl⟩
    exact relax_low _ o _ hes0 (hat a ha) (hk.low a _ (.inl hs)) (hk.far a _ _ _ hs hw)
  refine ⟨fun y b hy => ?_, fun x h => ?_, ⟨_, rfl⟩, fun x h => ?_, fun x h => ?_, fun x a h => ?_, fun x t y h he hr => ?_, fun y b hy hr => ?_, fun y b hy => ?_⟩
  · obtain ⟨h1, h2, h3, h4⟩ := waits_iff.1 hy
    rw [← h4]
    exact hleast _ (numS_lt h1) h2 (by rw [h4]; exact h3)
  · obtain rfl := h
    exact hw
  · obtain rfl := h
    refine settled_iff.2 ⟨hlen, by rw [hset, hnum, if_pos rfl], ?_⟩
    rw [hnum]
    exact relax_low _ o _ hes0 (by rw [ho]; exact hi) hoi (Int.le_refl _)
  · by_cases hl : x.1.length = n
    · unfold settledS
      rw [hset, if_neg (hne x hl h)]
      by_cases hdx : done.getD (numS x) false = true
      · rw [if_pos ⟨hl, hdx⟩, if_pos ⟨hl, hdx⟩, hsame x hl hdx]
      · rw [if_neg (fun hh => hdx hh.2), if_neg (fun hh => hdx hh.2)]
    · unfold settledS
      rw [if_neg (fun hh => hl hh.1), if_neg (fun hh => hl hh.1)]
  · obtain ⟨-, h2, -⟩ := settled_iff.1 h
    unfold waitsS
    rw [if_neg (fun hh => by rw [h2] at hh; exact absurd hh.2.1 (by simp))]
  · obtain rfl := h
    obtain ⟨-, l, hl, rfl, rfl⟩ := he
    have hyl : (flipped (stateS n i).1 l).length = n := by rw [flipped_len]; exact hlen
    have hto := relax_to hoi _ o (numS (flipped (stateS n i).1 l, !(stateS n i).2), C l) hes (List.mem_map.2 ⟨l, hl, rfl⟩)
    have hdn : (done.set i true).getD (numS (flipped (stateS n i).1 l, !(stateS n i).2)) false = false := by
      cases hc : (done.set i true).getD (numS (flipped (stateS n i).1 l, !(stateS n i).2)) false
      · rfl
      · rw [settled_iff.2 ⟨hyl, hc, rfl⟩] at hr
        cases hr
    exact ⟨_, waits_iff.2 ⟨hyl, hdn, hto.1, rfl⟩, hto.2⟩
  · obtain ⟨h1, h2, h3, h4⟩ := waits_iff.1 hy
    have hst := relax_still hoi (legsW L C (stateS n i)) o (numS y) hes0 (hat y h1) (by rw [h4]; exact h3)
    have hdn : (done.set i true).getD (numS y) false = false := by
      cases hc : (done.set i true).getD (numS y) false
      · rfl
      · rw [settled_iff.2 ⟨h1, hc, rfl⟩] at hr
        cases hr
    exact ⟨_, waits_iff.2 ⟨h1, hdn, hst.1, rfl⟩, by rw [← h4]; exact hst.2⟩
  · obtain ⟨h1, h2, h3, h4⟩ := waits_iff.1 hy
    have hdy : done.getD (numS y) false = false := by
      rw [hset] at h2
      split at h2
      · cases h2
      · exact h2
    rcases relax_from (o.getD i (-1)) (legsW L C (stateS n i)) o (numS y) (hat y h1) with h5 | ⟨e, he, h5, h6⟩
    · refine .inl ⟨waits_iff.2 ⟨h1, hdy, h3, by rw [← h5]; exact h4⟩, ?_⟩
      unfold settledS
      rw [if_neg (fun hh => by rw [h2] at hh; exact absurd hh.2 (by simp))]
    · simp only [legsW, List.mem_map] at he
      obtain ⟨l, hl, rfl⟩ := he
      refine .inr ⟨_, C l, rfl, ⟨hlen, l, hl, rfl, ?_⟩, by rw [← h4]; exact h6⟩
      have h7 : (flipped (stateS n i).1 l).length = n := by rw [flipped_len]; exact hlen
      rw [← stateS_num h1, ← h5]
      exact stateS_num h7
end Go.Proofs.Ytlpeimlbpiofkaa

namespace Go.Proofs.Ytlpeimlbpiofkaa

/-- One look of the pick. -/
def pickStep (done : List Bool) (o : List Int) (at_ : Int) (i : Nat) : Int := if done.getD i false = false ∧ 0 ≤ o.getD i (-1) ∧ (at_ < 0 ∨ o.getD i (-1) < o.getD at_.toNat (-1)) then (i : Int) else at_
def pickTo (done : List Bool) (o : List Int) (j : Nat) : Int := (List.range j).foldl (pickStep done o) (-1)
theorem pick_zero (done : List Bool) (o : List Int) : pickTo done o 0 = -1 := rfl
theorem pick_next (done : List Bool) (o : List Int) (j : Nat) : pickTo done o (j + 1) = pickStep done o (pickTo done o j) j := by rw [pickTo, List.range_succ, List.foldl_append]; rfl
theorem pick_is (done : List Bool) (o : List Int) : ∀ j, (pickTo done o j = -1 ∧ ∀ i, i < j → done.getD i false = false → o.getD i (-1) < 0) ∨ ∃ p : Nat, p < j ∧ pickTo done o j = p ∧ done.getD p false = false ∧ 0 ≤ o.getD p (-1) ∧ ∀ i, i < j → done.getD i false = false → 0 ≤ o.getD i (-1) → o.getD p (-1) ≤ o.getD i (-1)
  | 0 => .inl ⟨rfl, fun i h => by omega⟩
  | j + 1 => by
    rw [pick_next]
    unfold pickStep
    rcases pick_is done o j with ⟨h1, h2⟩ | ⟨p, hp, h1, h2, h3, h4⟩
    · rw [h1]
      by_cases hc : done.getD j false = false ∧ 0 ≤ o.getD j (-1)
      · rw [if_pos ⟨hc.1, hc.2, .inl (by omega)⟩]
        refine .inr ⟨j, by omega, rfl, hc.1, hc.2, fun i hi hd h0 => ?_⟩
        rcases Nat.lt_succ_iff_lt_or_eq.1 hi with hi | rfl
        · have := h2 i hi hd; omega
        · exact Int.le_refl _
      · rw [if_neg (fun h => hc ⟨h.1, h.2.1⟩)]
        refine .inl ⟨rfl, fun i hi hd => ?_⟩
        rcases Nat.lt_succ_iff_lt_or_eq.1 hi with hi | rfl
        · exact h2 i hi hd
        · rcases Int.lt_or_le (o.getD i (-1)) 0 with h | h
          · exact h
          · exact absurd ⟨hd, h⟩ hc
    · rw [h1]
      by_cases hc : done.getD j false = false ∧ 0 ≤ o.getD j (-1) ∧ o.getD j (-1) < o.getD p (-1)
      · rw [if_pos ⟨hc.1, hc.2.1, .inr (by simpa using hc.2.2)⟩]
        refine .inr ⟨j, by omega, rfl, hc.1, hc.2.1, fun i hi hd h0 => ?_⟩
        rcases Nat.lt_succ_iff_lt_or_eq.1 hi with hi | rfl
        · have := h4 i hi hd h0; have := hc.2.2; omega
        · exact Int.le_refl _
      · rw [if_neg (fun h => hc ⟨h.1, h.2.1, by rcases h.2.2 with h5 | h5; · omega
                                                · simpa using h5⟩)]
        refine .inr ⟨p, by omega, rfl, h2, h3, fun i hi hd h0 => ?_⟩
        rcases Nat.lt_succ_iff_lt_or_eq.1 hi with hi | rfl
        · exact h4 i hi hd h0
        · rcases Int.lt_or_le (o.getD i (-1)) (o.getD p (-1)) with h | h
          · exact absurd ⟨hd, h0, h⟩ hc
          · exact h
end Go.Proofs.Ytlpeimlbpiofkaa

namespace Go.Proofs.Ytlpeimlbpiofkaa
open Go.RowKit

/-- What stands between two rounds. -/
structure SeTo (xs : List Int) (s : Int) (n e : Nat) (done : List Bool) (o : List Int) : Prop where
  hd : done.length = 2 ^ (n + 1)
  ho : o.length = 2 ^ (n + 1)
  seek : Seek (Leg xs n s) (stateS n e) (settledS n done o) (waitsS n done o)
theorem se_start {xs : List Int} {s : Int} {n e : Nat} (he : e < 2 ^ (n + 1)) : SeTo xs s n e (List.replicate (2 ^ (n + 1)) false) ((List.replicate (2 ^ (n + 1)) (-1)).set e 0) := by
  refine ⟨by simp, by simp, ?_⟩
  have h1 : settledS n (List.replicate (2 ^ (n + 1)) false) ((List.replicate (2 ^ (n + 1)) (-1)).set e 0) = fun _ => none := by
    funext a
    unfold settledS
    rw [if_neg]
    rintro ⟨-, h⟩
    rw [List.getD_eq_getElem?_getD, List.getElem?_replicate] at h
    split at h <;> cases h
  have h2 : waitsS n (List.replicate (2 ^ (n + 1)) false) ((List.replicate (2 ^ (n + 1)) (-1)).set e 0) = fun x => if x = stateS n e then some 0 else none := by
    funext a
    by_cases ha : a.1.length = n
    · by_cases hq : a = stateS n e
      · subst hq
        rw [if_pos rfl]
        refine waits_iff.2 ⟨ha, ?_, Int.le_refl _, ?_⟩
        · rw [List.getD_eq_getElem?_getD, List.getElem?_replicate]; split <;> rfl
        · rw [numS_state he, List.getD_eq_getElem?_getD, List.getElem?_set_self (by simpa using he)]; rfl
      · rw [if_neg hq]
        unfold waitsS
        rw [if_neg]
        rintro ⟨-, -, h⟩
        have hne : e ≠ numS a := fun h => hq (by rw [h, stateS_num ha])
        rw [List.getD_eq_getElem?_getD, List.getElem?_set_ne hne, List.getElem?_replicate] at h
        split at h <;> simp at h
    · have hq : a ≠ stateS n e := fun h => ha (by rw [h]; exact stateS_len n e)
      rw [if_neg hq]
      unfold waitsS
      rw [if_neg (fun h => ha h.1)]
  rw [h1, h2]
  exact seek_start _ _
theorem se_round {xs : List Int} {s : Int} {n e p : Nat} {done : List Bool} {o : List Int} (hx : xs.length = n) (hxs : ∀ y ∈ xs, 1 ≤ y) (h : SeTo xs s n e done o) (hp : pickTo done o (2 ^ (n + 1)) = p) : SeTo xs s n e (done.set p true) (relax (o.getD p (-1)) (legsS xs n s (stateS n p)) o) ∧ done.getD p false = false ∧ p < 2 ^ (n + 1) ∧ 0 ≤ o.getD p (-1) := by
  rcases pick_is done o (2 ^ (n + 1)) with ⟨h1, -⟩ | ⟨p', h1, h2, h3, h4, h5⟩
  · omega
  · obtain rfl : p' = p := by omega
    refine ⟨⟨by rw [List.length_set]; exact h.hd, by rw [relax_len]; exact h.ho, ?_⟩, h3, h1, h4⟩
    exact seek_round (fun x t y he => leg_time hx hxs he) h.seek (round_of hx hxs h.hd h.ho h1 h3 h4 (fun j hj hd h0 => h5 j hj hd h0) h.seek)
theorem se_end {xs : List Int} {s : Int} {n e : Nat} {done : List Bool} {o : List Int} (h : SeTo xs s n e done o) (hp : pickTo done o (2 ^ (n + 1)) < 0) : Least (Leg xs n s) (stateS n e) (settledS n done o) ∧ ∀ i, i < 2 ^ (n + 1) → done.getD i false = false → o.getD i (-1) < 0 := by
  rcases pick_is done o (2 ^ (n + 1)) with ⟨-, h2⟩ | ⟨p', h1, h2, -⟩
  · refine ⟨seek_end h.seek fun x => ?_, h2⟩
    unfold waitsS
    rw [if_neg]
    rintro ⟨h3, h4, h5⟩
    have := h2 _ (numS_lt h3) h4
    omega
  · omega
theorem count_set : ∀ (d : List Bool) (i : Nat), i < d.length → d.getD i false = false → (d.set i true).count true = d.count true + 1
  | [], i, h, _ => by simp at h
  | b :: d, 0, _, h => by
    obtain rfl : b = false := by simpa using h
    simp
  | b :: d, i + 1, h, h2 => by
    have ih := count_set d i (by simpa using h) (by simpa using h2)
    rw [List.set_cons_succ, List.count_cons, List.count_cons, ih]
    omega
end Go.Proofs.Ytlpeimlbpiofkaa
