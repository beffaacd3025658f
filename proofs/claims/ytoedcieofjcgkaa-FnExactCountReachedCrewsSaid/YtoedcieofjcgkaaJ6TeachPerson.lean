/-
  What is proved: a contract of the model's test of a row told as a list. Conditions: at most four couples.
  What is proved: contracts of the model's test of a plan of rows. Conditions: the lists are read as they lie; at most four couples.
  What is proved: the model's test of a row, on numbers of states, and the program's list of rows, on places, tell the same rows. Conditions: at most four couples.
  What is proved: contracts of the model's party of a crew, of its test of a crew with a state, and of its test of a ride. Conditions: the arguments are read as they lie.
  What is proved: contracts of the laws' own helpers for crews: their size, their copy, their comparison, their marks. Conditions: the given lists are read as they lie; a copy is of at most 1,048,576 values.
  What is proved: the contract of trips made one after the other by the program. Conditions: the lists are read as they lie; at most eight people.
  What is proved: contracts of TripThatFails, of the model and of the program. Conditions: the arguments are read as they lie.
  What is proved: a contract of the model's IsCalmPlan. Conditions: the arguments are read as they lie.
  What is proved: the contract of the program's test whether lists lead over, for rivers of crews. Conditions: the lists are read as they lie.
  What is proved: the contract of trips made one after the other by the model, with the place of the state behind them. Conditions: the arguments are read as they lie; there is somebody.
  What is proved: contracts of the model's test of a plan. Conditions: the lists are read as they lie; one to eight people.
-/
import Derived.Deep.RegionHeld3
import Derived.Deep.QuietTactic
import Derived.BigQuiet
import Derived.Deep.DeepCutAuto
import Derived.Test.YtoedcieofjcgkaaJ5TeachPerson
set_option linter.unusedSimpArgs false
set_option linter.unusedVariables false
namespace Go.Proofs.Ytoedcieofjcgkaa
open Go.RowKit

/-- A row, told as a list. -/
noncomputable def tripM (k : Nat) (q : Int) (x : Nat) (l : List Int) : Bool := within l.length 1 q && (rising l (2 * k - 1) && canM k q x (maskOf l))
theorem tripM_no1 {k : Nat} {q : Int} {x : Nat} {l : List Int} (h : within l.length 1 q = false) : tripM k q x l = false := by simp [tripM, h]
theorem tripM_no2 {k : Nat} {q : Int} {x : Nat} {l : List Int} (h : rising l (2 * k - 1) = false) : tripM k q x l = false := by simp [tripM, h]
theorem tripM_on {k : Nat} {q : Int} {x : Nat} {l : List Int} (h : within l.length 1 q = true) (h2 : rising l (2 * k - 1) = true) : tripM k q x l = canM k q x (maskOf l) := by simp [tripM, h, h2]
theorem mask_pos {l : List Int} {hi : Int} (hs : StepsTo l hi l.length) (h0 : 0 < l.length) : 1 ≤ maskOf l := by
  by_cases hm : maskOf l = 0
  · have h1 := mask_bit l (fun x hx => (mem_steps hs hx).1) (l[0]).toNat
    rw [hm] at h1
    have h2 : has l (l[0]).toNat = true := has_iff.2 (by rw [Int.toNat_of_nonneg (mem_steps hs (List.getElem_mem h0)).1]; exact List.getElem_mem h0)
    rw [h2] at h1
    simp [bitAt] at h1
  · omega

set_option maxHeartbeats 12800000 in
set_option maxRecDepth 100000 in
set_option linter.unusedSimpArgs false in
theorem cuTrip_any (k : Nat) (q : Int) (x : Nat) (D : Option Addr) (n d : Nat) (l : List Int) (w : World) (hk : k ≤ 4) (hx : x / 2 < 2 ^ (2 * k)) (hD : Holds w D (nums l)) (hl : l.length = n) (hn : n ≤ 9223372036854775807) :
    Calls Try.prog 107 #[.agg #[.int .i64 k, .int .i64 q], .int .i64 x, .slice D n d] w fun e w' => e = .returned (.bool (tripM k q x l)) ∧ Below w.heap.size w w' := by
  have hc := Whole.fresh w 28 #[.int .i64 k, .int .i64 q]
  have ht := below1 w (.cells #[.int .i64 k, .int .i64 q] 28)
  have hD2 := hD.alloc (.cells #[.int .i64 k, .int .i64 q] 28)
  have HX := Lib.hid hl
  have HXL := Lib.hid hx
  have hw2 : IntKind.i64.wrap (2 * (k : Int)) = 2 * (k : Int) := IntWalk.i64_in _ (by omega)
  have hw3 : IntKind.i64.wrap (2 * (k : Int) - 1) = 2 * (k : Int) - 1 := IntWalk.i64_in _ (by omega)
  rw [← hl] at hn ⊢
  obtain rfl : l.length = n := hl
  cases h1 : within l.length 1 q
  · have HP := Lib.hid (tripM_no1 (k := k) (x := x) h1)
    have HW1 := Lib.hid h1
    clear h1 hx hD
    go_enter Try.func107, Try.ntmps107
    go_wp2_with fail
    refine wp_region_held_drew (S := (Box1 w.heap.size (.int .i64 k) (.int .i64 q))) (by kernel_rfl) (box1_of hc.drew) (fun hHeld => ?_)
    replace ht := ht.drew
    replace hc := hc.drew
    replace hD2 := hD2.drew
    refine wpAnyH_take (i := 0) (v := ?_) rfl (by kernel_rfl) (by kernel_rfl) (by kernel_rfl) (fun _ _ _ h => h) (Or.inl ⟨rfl, ?_⟩) hHeld ?_
    rotate_left
    · intro w' hS; obtain ⟨s0, s1⟩ := hS; go_simp <;> with_reducible rfl
    simp only [Act.put, List.getElem_toArray, List.getElem_cons_succ, List.getElem_cons_zero, List.setIfInBounds_toArray, List.set_cons_succ, List.set_cons_zero]
    refine wpAnyH_take (i := 1) (v := ?_) rfl (by kernel_rfl) (by kernel_rfl) (by kernel_rfl) (fun _ _ _ h => h) (Or.inl ⟨rfl, ?_⟩) hHeld ?_
    rotate_left
    · intro w' hS; obtain ⟨s0, s1⟩ := hS; go_simp <;> with_reducible rfl
    simp only [Act.put, List.getElem_toArray, List.getElem_cons_succ, List.getElem_cons_zero, List.setIfInBounds_toArray, List.set_cons_succ, List.set_cons_zero]
    refine wpAnyH_take (i := 2) (v := ?_) rfl (by kernel_rfl) (by kernel_rfl) (by kernel_rfl) (fun _ _ _ h => h) (Or.inl ⟨rfl, ?_⟩) hHeld ?_
    rotate_left
    · intro w' hS; obtain ⟨s0, s1⟩ := hS; go_simp <;> with_reducible rfl
    simp only [Act.put, List.getElem_toArray, List.getElem_cons_succ, List.getElem_cons_zero, List.setIfInBounds_toArray, List.set_cons_succ, List.set_cons_zero]
    refine wpAnyH_take (i := 3) (v := ?_) rfl (by kernel_rfl) (by kernel_rfl) (by kernel_rfl) (fun _ _ _ h => h) (Or.inl ⟨rfl, ?_⟩) hHeld ?_
    rotate_left
    · intro w' hS; obtain ⟨s0, s1⟩ := hS; go_simp <;> with_reducible rfl
    simp only [Act.put, List.getElem_toArray, List.getElem_cons_succ, List.getElem_cons_zero, List.setIfInBounds_toArray, List.set_cons_succ, List.set_cons_zero]
    refine wpAnyH_ready (rs := [4]) (by kernel_rfl) (by simp) (AllReadyH.cons rfl (fun K hK => ?_) AllReadyH.nil)
    go_simp
    refine (l1In_any _ _ _ _).mono ?_
    rintro e w1 ⟨rfl, rfl⟩
    rw [HW1.out]
    refine hK.out _ _ (box1_of hc) (fun hHeld => ?_)
    clear hK K
    try simp only [Act.put, List.getElem_toArray, List.getElem_cons_succ, List.getElem_cons_zero, List.setIfInBounds_toArray, List.set_cons_succ, List.set_cons_zero]
    refine wpAnyH_take (i := 5) (v := ?_) rfl (by kernel_rfl) (by kernel_rfl) (by kernel_rfl) (fun _ _ _ h => h) (Or.inl ⟨rfl, ?_⟩) hHeld ?_
    rotate_left
    · intro w' hS; obtain ⟨s0, s1⟩ := hS; go_simp <;> with_reducible rfl
    simp only [Act.put, List.getElem_toArray, List.getElem_cons_succ, List.getElem_cons_zero, List.setIfInBounds_toArray, List.set_cons_succ, List.set_cons_zero]
    refine wpAnyH_take (i := 6) (v := undef) rfl (by kernel_rfl) (by kernel_rfl) (by kernel_rfl) (fun _ _ _ h => h) (Or.inr ⟨by simp [Region.wanted, yielded], rfl⟩) hHeld ?_
    simp only [Act.put, List.getElem_toArray, List.getElem_cons_succ, List.getElem_cons_zero, List.setIfInBounds_toArray, List.set_cons_succ, List.set_cons_zero]
    refine wpAnyH_take (i := 7) (v := undef) rfl (by kernel_rfl) (by kernel_rfl) (by kernel_rfl) (fun _ _ _ h => h) (Or.inr ⟨by simp [Region.wanted, yielded], rfl⟩) hHeld ?_
    simp only [Act.put, List.getElem_toArray, List.getElem_cons_succ, List.getElem_cons_zero, List.setIfInBounds_toArray, List.set_cons_succ, List.set_cons_zero]
    refine wpAnyH_take (i := 8) (v := undef) rfl (by kernel_rfl) (by kernel_rfl) (by kernel_rfl) (fun _ _ _ h => h) (Or.inr ⟨by simp [Region.wanted, yielded], rfl⟩) hHeld ?_
    simp only [Act.put, List.getElem_toArray, List.getElem_cons_succ, List.getElem_cons_zero, List.setIfInBounds_toArray, List.set_cons_succ, List.set_cons_zero]
    refine wpAnyH_take (i := 9) (v := undef) rfl (by kernel_rfl) (by kernel_rfl) (by kernel_rfl) (fun _ _ _ h => h) (Or.inr ⟨by simp [Region.wanted, yielded], rfl⟩) hHeld ?_
    simp only [Act.put, List.getElem_toArray, List.getElem_cons_succ, List.getElem_cons_zero, List.setIfInBounds_toArray, List.set_cons_succ, List.set_cons_zero]
    refine wpAnyH_take (i := 10) (v := undef) rfl (by kernel_rfl) (by kernel_rfl) (by kernel_rfl) (fun _ _ _ h => h) (Or.inr ⟨by simp [Region.wanted, yielded], rfl⟩) hHeld ?_
    simp only [Act.put, List.getElem_toArray, List.getElem_cons_succ, List.getElem_cons_zero, List.setIfInBounds_toArray, List.set_cons_succ, List.set_cons_zero]
    refine wpAnyH_take (i := 11) (v := undef) rfl (by kernel_rfl) (by kernel_rfl) (by kernel_rfl) (fun _ _ _ h => h) (Or.inr ⟨by simp [Region.wanted, yielded], rfl⟩) hHeld ?_
    simp only [Act.put, List.getElem_toArray, List.getElem_cons_succ, List.getElem_cons_zero, List.setIfInBounds_toArray, List.set_cons_succ, List.set_cons_zero]
    refine wpAnyH_take (i := 12) (v := ?_) rfl (by kernel_rfl) (by kernel_rfl) (by kernel_rfl) (fun _ _ _ h => h) (Or.inl ⟨rfl, ?_⟩) hHeld ?_
    rotate_left
    · intro w' hS; obtain ⟨s0, s1⟩ := hS; go_simp <;> with_reducible rfl
    simp only [Act.put, List.getElem_toArray, List.getElem_cons_succ, List.getElem_cons_zero, List.setIfInBounds_toArray, List.set_cons_succ, List.set_cons_zero]
    refine wpAnyH_take (i := 13) (v := ?_) rfl (by kernel_rfl) (by kernel_rfl) (by kernel_rfl) (fun _ _ _ h => h) (Or.inl ⟨rfl, ?_⟩) hHeld ?_
    rotate_left
    · intro w' hS; obtain ⟨s0, s1⟩ := hS; go_simp <;> with_reducible rfl
    simp only [Act.put, List.getElem_toArray, List.getElem_cons_succ, List.getElem_cons_zero, List.setIfInBounds_toArray, List.set_cons_succ, List.set_cons_zero]
    refine wpAnyH_take (i := 14) (v := undef) rfl (by kernel_rfl) (by kernel_rfl) (by kernel_rfl) (fun _ _ _ h => h) (Or.inr ⟨by simp [Region.wanted, yielded], rfl⟩) hHeld ?_
    simp only [Act.put, List.getElem_toArray, List.getElem_cons_succ, List.getElem_cons_zero, List.setIfInBounds_toArray, List.set_cons_succ, List.set_cons_zero]
    refine wpAnyH_take (i := 15) (v := undef) rfl (by kernel_rfl) (by kernel_rfl) (by kernel_rfl) (fun _ _ _ h => h) (Or.inr ⟨by simp [Region.wanted, yielded], rfl⟩) hHeld ?_
    simp only [Act.put, List.getElem_toArray, List.getElem_cons_succ, List.getElem_cons_zero, List.setIfInBounds_toArray, List.set_cons_succ, List.set_cons_zero]
    refine wpAnyH_take (i := 16) (v := undef) rfl (by kernel_rfl) (by kernel_rfl) (by kernel_rfl) (fun _ _ _ h => h) (Or.inr ⟨by simp [Region.wanted, yielded], rfl⟩) hHeld ?_
    simp only [Act.put, List.getElem_toArray, List.getElem_cons_succ, List.getElem_cons_zero, List.setIfInBounds_toArray, List.set_cons_succ, List.set_cons_zero]
    refine wpAnyH_take (i := 17) (v := undef) rfl (by kernel_rfl) (by kernel_rfl) (by kernel_rfl) (fun _ _ _ h => h) (Or.inr ⟨by simp [Region.wanted, yielded], rfl⟩) hHeld ?_
    simp only [Act.put, List.getElem_toArray, List.getElem_cons_succ, List.getElem_cons_zero, List.setIfInBounds_toArray, List.set_cons_succ, List.set_cons_zero]
    refine wpAnyH_take (i := 18) (v := undef) rfl (by kernel_rfl) (by kernel_rfl) (by kernel_rfl) (fun _ _ _ h => h) (Or.inr ⟨by simp [Region.wanted, yielded], rfl⟩) hHeld ?_
    simp only [Act.put, List.getElem_toArray, List.getElem_cons_succ, List.getElem_cons_zero, List.setIfInBounds_toArray, List.set_cons_succ, List.set_cons_zero]
    refine wpAnyH_take (i := 19) (v := ?_) rfl (by kernel_rfl) (by kernel_rfl) (by kernel_rfl) (fun _ _ _ h => h) (Or.inl ⟨rfl, ?_⟩) hHeld ?_
    rotate_left
    · intro w' hS; obtain ⟨s0, s1⟩ := hS; go_simp <;> with_reducible rfl
    simp only [Act.put, List.getElem_toArray, List.getElem_cons_succ, List.getElem_cons_zero, List.setIfInBounds_toArray, List.set_cons_succ, List.set_cons_zero]
    refine wpAnyH_take (i := 20) (v := ?_) rfl (by kernel_rfl) (by kernel_rfl) (by kernel_rfl) (fun _ _ _ h => h) (Or.inl ⟨rfl, ?_⟩) hHeld ?_
    rotate_left
    · intro w' hS; obtain ⟨s0, s1⟩ := hS; go_simp <;> with_reducible rfl
    simp only [Act.put, List.getElem_toArray, List.getElem_cons_succ, List.getElem_cons_zero, List.setIfInBounds_toArray, List.set_cons_succ, List.set_cons_zero]
    refine wpAnyH_done (by kernel_rfl) ?_ _
    clear hHeld
    go_wp2
    go_ret
    exact ⟨ret_of (by rw [HP.out]; rfl), ht⟩
  · cases h2 : rising l (2 * k - 1)
    · have HP := Lib.hid (tripM_no2 (q := q) (x := x) h2)
      have HW1 := Lib.hid h1
      have HRI := Lib.hid h2
      clear h1 h2 hx hD
      go_enter Try.func107, Try.ntmps107
      go_wp2_with fail
      refine wp_region_held_drew (S := (Box1 w.heap.size (.int .i64 k) (.int .i64 q))) (by kernel_rfl) (box1_of hc.drew) (fun hHeld => ?_)
      replace ht := ht.drew
      replace hc := hc.drew
      replace hD2 := hD2.drew
      refine wpAnyH_take (i := 0) (v := ?_) rfl (by kernel_rfl) (by kernel_rfl) (by kernel_rfl) (fun _ _ _ h => h) (Or.inl ⟨rfl, ?_⟩) hHeld ?_
      rotate_left
      · intro w' hS; obtain ⟨s0, s1⟩ := hS; go_simp <;> with_reducible rfl
      simp only [Act.put, List.getElem_toArray, List.getElem_cons_succ, List.getElem_cons_zero, List.setIfInBounds_toArray, List.set_cons_succ, List.set_cons_zero]
      refine wpAnyH_take (i := 1) (v := ?_) rfl (by kernel_rfl) (by kernel_rfl) (by kernel_rfl) (fun _ _ _ h => h) (Or.inl ⟨rfl, ?_⟩) hHeld ?_
      rotate_left
      · intro w' hS; obtain ⟨s0, s1⟩ := hS; go_simp <;> with_reducible rfl
      simp only [Act.put, List.getElem_toArray, List.getElem_cons_succ, List.getElem_cons_zero, List.setIfInBounds_toArray, List.set_cons_succ, List.set_cons_zero]
      refine wpAnyH_take (i := 2) (v := ?_) rfl (by kernel_rfl) (by kernel_rfl) (by kernel_rfl) (fun _ _ _ h => h) (Or.inl ⟨rfl, ?_⟩) hHeld ?_
      rotate_left
      · intro w' hS; obtain ⟨s0, s1⟩ := hS; go_simp <;> with_reducible rfl
      simp only [Act.put, List.getElem_toArray, List.getElem_cons_succ, List.getElem_cons_zero, List.setIfInBounds_toArray, List.set_cons_succ, List.set_cons_zero]
      refine wpAnyH_take (i := 3) (v := ?_) rfl (by kernel_rfl) (by kernel_rfl) (by kernel_rfl) (fun _ _ _ h => h) (Or.inl ⟨rfl, ?_⟩) hHeld ?_
      rotate_left
      · intro w' hS; obtain ⟨s0, s1⟩ := hS; go_simp <;> with_reducible rfl
      simp only [Act.put, List.getElem_toArray, List.getElem_cons_succ, List.getElem_cons_zero, List.setIfInBounds_toArray, List.set_cons_succ, List.set_cons_zero]
      refine wpAnyH_ready (rs := [4]) (by kernel_rfl) (by simp) (AllReadyH.cons rfl (fun K hK => ?_) AllReadyH.nil)
      go_simp
      refine (l1In_any _ _ _ _).mono ?_
      rintro e w1 ⟨rfl, rfl⟩
      rw [HW1.out]
      refine hK.out _ _ (box1_of hc) (fun hHeld => ?_)
      clear hK K
      try simp only [Act.put, List.getElem_toArray, List.getElem_cons_succ, List.getElem_cons_zero, List.setIfInBounds_toArray, List.set_cons_succ, List.set_cons_zero]
      refine wpAnyH_take (i := 5) (v := ?_) rfl (by kernel_rfl) (by kernel_rfl) (by kernel_rfl) (fun _ _ _ h => h) (Or.inl ⟨rfl, ?_⟩) hHeld ?_
      rotate_left
      · intro w' hS; obtain ⟨s0, s1⟩ := hS; go_simp <;> with_reducible rfl
      simp only [Act.put, List.getElem_toArray, List.getElem_cons_succ, List.getElem_cons_zero, List.setIfInBounds_toArray, List.set_cons_succ, List.set_cons_zero]
      refine wpAnyH_take (i := 6) (v := ?_) rfl (by kernel_rfl) (by kernel_rfl) (by kernel_rfl) (fun _ _ _ h => h) (Or.inl ⟨rfl, ?_⟩) hHeld ?_
      rotate_left
      · intro w' hS; obtain ⟨s0, s1⟩ := hS; go_simp <;> with_reducible rfl
      simp only [Act.put, List.getElem_toArray, List.getElem_cons_succ, List.getElem_cons_zero, List.setIfInBounds_toArray, List.set_cons_succ, List.set_cons_zero]
      refine wpAnyH_take (i := 7) (v := ?_) rfl (by kernel_rfl) (by kernel_rfl) (by kernel_rfl) (fun _ _ _ h => h) (Or.inl ⟨rfl, ?_⟩) hHeld ?_
      rotate_left
      · intro w' hS; obtain ⟨s0, s1⟩ := hS; go_simp <;> with_reducible rfl
      simp only [Act.put, List.getElem_toArray, List.getElem_cons_succ, List.getElem_cons_zero, List.setIfInBounds_toArray, List.set_cons_succ, List.set_cons_zero]
      refine wpAnyH_take (i := 8) (v := ?_) rfl (by kernel_rfl) (by kernel_rfl) (by kernel_rfl) (fun _ _ _ h => h) (Or.inl ⟨rfl, ?_⟩) hHeld ?_
      rotate_left
      · intro w' hS; obtain ⟨s0, s1⟩ := hS; go_simp <;> with_reducible rfl
      simp only [Act.put, List.getElem_toArray, List.getElem_cons_succ, List.getElem_cons_zero, List.setIfInBounds_toArray, List.set_cons_succ, List.set_cons_zero]
      refine wpAnyH_take (i := 9) (v := ?_) rfl (by kernel_rfl) (by kernel_rfl) (by kernel_rfl) (fun _ _ _ h => h) (Or.inl ⟨rfl, ?_⟩) hHeld ?_
      rotate_left
      · intro w' hS; obtain ⟨s0, s1⟩ := hS; go_simp <;> with_reducible rfl
      simp only [Act.put, List.getElem_toArray, List.getElem_cons_succ, List.getElem_cons_zero, List.setIfInBounds_toArray, List.set_cons_succ, List.set_cons_zero]
      refine wpAnyH_take (i := 10) (v := ?_) rfl (by kernel_rfl) (by kernel_rfl) (by kernel_rfl) (fun _ _ _ h => h) (Or.inl ⟨rfl, ?_⟩) hHeld ?_
      rotate_left
      · intro w' hS; obtain ⟨s0, s1⟩ := hS; go_simp <;> with_reducible rfl
      simp only [Act.put, List.getElem_toArray, List.getElem_cons_succ, List.getElem_cons_zero, List.setIfInBounds_toArray, List.set_cons_succ, List.set_cons_zero]
      refine wpAnyH_ready (rs := [11]) (by kernel_rfl) (by simp) (AllReadyH.cons rfl (fun K hK => ?_) AllReadyH.nil)
      go_simp
      refine (l1Rising_any D l.length d l _ _ hD2 rfl hn).mono ?_
      rintro e w2 ⟨rfl, rfl⟩
      rw [HRI.out]
      refine hK.out _ _ (box1_of hc) (fun hHeld => ?_)
      clear hK K
      try simp only [Act.put, List.getElem_toArray, List.getElem_cons_succ, List.getElem_cons_zero, List.setIfInBounds_toArray, List.set_cons_succ, List.set_cons_zero]
      refine wpAnyH_take (i := 12) (v := ?_) rfl (by kernel_rfl) (by kernel_rfl) (by kernel_rfl) (fun _ _ _ h => h) (Or.inl ⟨rfl, ?_⟩) hHeld ?_
      rotate_left
      · intro w' hS; obtain ⟨s0, s1⟩ := hS; go_simp <;> with_reducible rfl
      simp only [Act.put, List.getElem_toArray, List.getElem_cons_succ, List.getElem_cons_zero, List.setIfInBounds_toArray, List.set_cons_succ, List.set_cons_zero]
      refine wpAnyH_take (i := 13) (v := ?_) rfl (by kernel_rfl) (by kernel_rfl) (by kernel_rfl) (fun _ _ _ h => h) (Or.inl ⟨rfl, ?_⟩) hHeld ?_
      rotate_left
      · intro w' hS; obtain ⟨s0, s1⟩ := hS; go_simp <;> with_reducible rfl
      simp only [Act.put, List.getElem_toArray, List.getElem_cons_succ, List.getElem_cons_zero, List.setIfInBounds_toArray, List.set_cons_succ, List.set_cons_zero]
      refine wpAnyH_take (i := 14) (v := undef) rfl (by kernel_rfl) (by kernel_rfl) (by kernel_rfl) (fun _ _ _ h => h) (Or.inr ⟨by simp [Region.wanted, yielded], rfl⟩) hHeld ?_
      simp only [Act.put, List.getElem_toArray, List.getElem_cons_succ, List.getElem_cons_zero, List.setIfInBounds_toArray, List.set_cons_succ, List.set_cons_zero]
      refine wpAnyH_take (i := 15) (v := undef) rfl (by kernel_rfl) (by kernel_rfl) (by kernel_rfl) (fun _ _ _ h => h) (Or.inr ⟨by simp [Region.wanted, yielded], rfl⟩) hHeld ?_
      simp only [Act.put, List.getElem_toArray, List.getElem_cons_succ, List.getElem_cons_zero, List.setIfInBounds_toArray, List.set_cons_succ, List.set_cons_zero]
      refine wpAnyH_take (i := 16) (v := undef) rfl (by kernel_rfl) (by kernel_rfl) (by kernel_rfl) (fun _ _ _ h => h) (Or.inr ⟨by simp [Region.wanted, yielded], rfl⟩) hHeld ?_
      simp only [Act.put, List.getElem_toArray, List.getElem_cons_succ, List.getElem_cons_zero, List.setIfInBounds_toArray, List.set_cons_succ, List.set_cons_zero]
      refine wpAnyH_take (i := 17) (v := undef) rfl (by kernel_rfl) (by kernel_rfl) (by kernel_rfl) (fun _ _ _ h => h) (Or.inr ⟨by simp [Region.wanted, yielded], rfl⟩) hHeld ?_
      simp only [Act.put, List.getElem_toArray, List.getElem_cons_succ, List.getElem_cons_zero, List.setIfInBounds_toArray, List.set_cons_succ, List.set_cons_zero]
      refine wpAnyH_take (i := 18) (v := undef) rfl (by kernel_rfl) (by kernel_rfl) (by kernel_rfl) (fun _ _ _ h => h) (Or.inr ⟨by simp [Region.wanted, yielded], rfl⟩) hHeld ?_
      simp only [Act.put, List.getElem_toArray, List.getElem_cons_succ, List.getElem_cons_zero, List.setIfInBounds_toArray, List.set_cons_succ, List.set_cons_zero]
      refine wpAnyH_take (i := 19) (v := ?_) rfl (by kernel_rfl) (by kernel_rfl) (by kernel_rfl) (fun _ _ _ h => h) (Or.inl ⟨rfl, ?_⟩) hHeld ?_
      rotate_left
      · intro w' hS; obtain ⟨s0, s1⟩ := hS; go_simp <;> with_reducible rfl
      simp only [Act.put, List.getElem_toArray, List.getElem_cons_succ, List.getElem_cons_zero, List.setIfInBounds_toArray, List.set_cons_succ, List.set_cons_zero]
      refine wpAnyH_take (i := 20) (v := ?_) rfl (by kernel_rfl) (by kernel_rfl) (by kernel_rfl) (fun _ _ _ h => h) (Or.inl ⟨rfl, ?_⟩) hHeld ?_
      rotate_left
      · intro w' hS; obtain ⟨s0, s1⟩ := hS; go_simp <;> with_reducible rfl
      simp only [Act.put, List.getElem_toArray, List.getElem_cons_succ, List.getElem_cons_zero, List.setIfInBounds_toArray, List.set_cons_succ, List.set_cons_zero]
      refine wpAnyH_done (by kernel_rfl) ?_ _
      clear hHeld
      go_wp2
      go_ret
      exact ⟨ret_of (by rw [HP.out]; rfl), ht⟩
    · have hst := rising_steps h2
      have hlen := (within_iff.1 h1).1
      have HP := Lib.hid (tripM_on (x := x) h1 h2)
      have HW1 := Lib.hid h1
      have HRI := Lib.hid h2
      have HST := Lib.hid hst
      have HM1 := Lib.hid (mask_pos hst (by omega))
      have HM2 := Lib.hid (mask_lt (n := 2 * k) (by have := steps_len hst (by omega); omega) l (fun x hx => by have := (mem_steps hst hx).2; omega))
      clear h1 h2 hx hD hst
      go_enter Try.func107, Try.ntmps107
      go_wp2_with fail
      refine wp_region_held_drew (S := (Box1 w.heap.size (.int .i64 k) (.int .i64 q))) (by kernel_rfl) (box1_of hc.drew) (fun hHeld => ?_)
      replace ht := ht.drew
      replace hc := hc.drew
      replace hD2 := hD2.drew
      refine wpAnyH_take (i := 0) (v := ?_) rfl (by kernel_rfl) (by kernel_rfl) (by kernel_rfl) (fun _ _ _ h => h) (Or.inl ⟨rfl, ?_⟩) hHeld ?_
      rotate_left
      · intro w' hS; obtain ⟨s0, s1⟩ := hS; go_simp <;> with_reducible rfl
      simp only [Act.put, List.getElem_toArray, List.getElem_cons_succ, List.getElem_cons_zero, List.setIfInBounds_toArray, List.set_cons_succ, List.set_cons_zero]
      refine wpAnyH_take (i := 1) (v := ?_) rfl (by kernel_rfl) (by kernel_rfl) (by kernel_rfl) (fun _ _ _ h => h) (Or.inl ⟨rfl, ?_⟩) hHeld ?_
      rotate_left
      · intro w' hS; obtain ⟨s0, s1⟩ := hS; go_simp <;> with_reducible rfl
      simp only [Act.put, List.getElem_toArray, List.getElem_cons_succ, List.getElem_cons_zero, List.setIfInBounds_toArray, List.set_cons_succ, List.set_cons_zero]
      refine wpAnyH_take (i := 2) (v := ?_) rfl (by kernel_rfl) (by kernel_rfl) (by kernel_rfl) (fun _ _ _ h => h) (Or.inl ⟨rfl, ?_⟩) hHeld ?_
      rotate_left
      · intro w' hS; obtain ⟨s0, s1⟩ := hS; go_simp <;> with_reducible rfl
      simp only [Act.put, List.getElem_toArray, List.getElem_cons_succ, List.getElem_cons_zero, List.setIfInBounds_toArray, List.set_cons_succ, List.set_cons_zero]
      refine wpAnyH_take (i := 3) (v := ?_) rfl (by kernel_rfl) (by kernel_rfl) (by kernel_rfl) (fun _ _ _ h => h) (Or.inl ⟨rfl, ?_⟩) hHeld ?_
      rotate_left
      · intro w' hS; obtain ⟨s0, s1⟩ := hS; go_simp <;> with_reducible rfl
      simp only [Act.put, List.getElem_toArray, List.getElem_cons_succ, List.getElem_cons_zero, List.setIfInBounds_toArray, List.set_cons_succ, List.set_cons_zero]
      refine wpAnyH_ready (rs := [4]) (by kernel_rfl) (by simp) (AllReadyH.cons rfl (fun K hK => ?_) AllReadyH.nil)
      go_simp
      refine (l1In_any _ _ _ _).mono ?_
      rintro e w1 ⟨rfl, rfl⟩
      rw [HW1.out]
      refine hK.out _ _ (box1_of hc) (fun hHeld => ?_)
      clear hK K
      try simp only [Act.put, List.getElem_toArray, List.getElem_cons_succ, List.getElem_cons_zero, List.setIfInBounds_toArray, List.set_cons_succ, List.set_cons_zero]
      refine wpAnyH_take (i := 5) (v := ?_) rfl (by kernel_rfl) (by kernel_rfl) (by kernel_rfl) (fun _ _ _ h => h) (Or.inl ⟨rfl, ?_⟩) hHeld ?_
      rotate_left
      · intro w' hS; obtain ⟨s0, s1⟩ := hS; go_simp <;> with_reducible rfl
      simp only [Act.put, List.getElem_toArray, List.getElem_cons_succ, List.getElem_cons_zero, List.setIfInBounds_toArray, List.set_cons_succ, List.set_cons_zero]
      refine wpAnyH_take (i := 6) (v := ?_) rfl (by kernel_rfl) (by kernel_rfl) (by kernel_rfl) (fun _ _ _ h => h) (Or.inl ⟨rfl, ?_⟩) hHeld ?_
      rotate_left
      · intro w' hS; obtain ⟨s0, s1⟩ := hS; go_simp <;> with_reducible rfl
      simp only [Act.put, List.getElem_toArray, List.getElem_cons_succ, List.getElem_cons_zero, List.setIfInBounds_toArray, List.set_cons_succ, List.set_cons_zero]
      refine wpAnyH_take (i := 7) (v := ?_) rfl (by kernel_rfl) (by kernel_rfl) (by kernel_rfl) (fun _ _ _ h => h) (Or.inl ⟨rfl, ?_⟩) hHeld ?_
      rotate_left
      · intro w' hS; obtain ⟨s0, s1⟩ := hS; go_simp <;> with_reducible rfl
      simp only [Act.put, List.getElem_toArray, List.getElem_cons_succ, List.getElem_cons_zero, List.setIfInBounds_toArray, List.set_cons_succ, List.set_cons_zero]
      refine wpAnyH_take (i := 8) (v := ?_) rfl (by kernel_rfl) (by kernel_rfl) (by kernel_rfl) (fun _ _ _ h => h) (Or.inl ⟨rfl, ?_⟩) hHeld ?_
      rotate_left
      · intro w' hS; obtain ⟨s0, s1⟩ := hS; go_simp <;> with_reducible rfl
      simp only [Act.put, List.getElem_toArray, List.getElem_cons_succ, List.getElem_cons_zero, List.setIfInBounds_toArray, List.set_cons_succ, List.set_cons_zero]
      refine wpAnyH_take (i := 9) (v := ?_) rfl (by kernel_rfl) (by kernel_rfl) (by kernel_rfl) (fun _ _ _ h => h) (Or.inl ⟨rfl, ?_⟩) hHeld ?_
      rotate_left
      · intro w' hS; obtain ⟨s0, s1⟩ := hS; go_simp <;> with_reducible rfl
      simp only [Act.put, List.getElem_toArray, List.getElem_cons_succ, List.getElem_cons_zero, List.setIfInBounds_toArray, List.set_cons_succ, List.set_cons_zero]
      refine wpAnyH_take (i := 10) (v := ?_) rfl (by kernel_rfl) (by kernel_rfl) (by kernel_rfl) (fun _ _ _ h => h) (Or.inl ⟨rfl, ?_⟩) hHeld ?_
      rotate_left
      · intro w' hS; obtain ⟨s0, s1⟩ := hS; go_simp <;> with_reducible rfl
      simp only [Act.put, List.getElem_toArray, List.getElem_cons_succ, List.getElem_cons_zero, List.setIfInBounds_toArray, List.set_cons_succ, List.set_cons_zero]
      refine wpAnyH_ready (rs := [11]) (by kernel_rfl) (by simp) (AllReadyH.cons rfl (fun K hK => ?_) AllReadyH.nil)
      go_simp
      refine (l1Rising_any D l.length d l _ _ hD2 rfl hn).mono ?_
      rintro e w2 ⟨rfl, rfl⟩
      rw [HRI.out]
      refine hK.out _ _ (box1_of hc) (fun hHeld => ?_)
      clear hK K
      try simp only [Act.put, List.getElem_toArray, List.getElem_cons_succ, List.getElem_cons_zero, List.setIfInBounds_toArray, List.set_cons_succ, List.set_cons_zero]
      refine wpAnyH_take (i := 12) (v := ?_) rfl (by kernel_rfl) (by kernel_rfl) (by kernel_rfl) (fun _ _ _ h => h) (Or.inl ⟨rfl, ?_⟩) hHeld ?_
      rotate_left
      · intro w' hS; obtain ⟨s0, s1⟩ := hS; go_simp <;> with_reducible rfl
      simp only [Act.put, List.getElem_toArray, List.getElem_cons_succ, List.getElem_cons_zero, List.setIfInBounds_toArray, List.set_cons_succ, List.set_cons_zero]
      refine wpAnyH_take (i := 13) (v := ?_) rfl (by kernel_rfl) (by kernel_rfl) (by kernel_rfl) (fun _ _ _ h => h) (Or.inl ⟨rfl, ?_⟩) hHeld ?_
      rotate_left
      · intro w' hS; obtain ⟨s0, s1⟩ := hS; go_simp <;> with_reducible rfl
      simp only [Act.put, List.getElem_toArray, List.getElem_cons_succ, List.getElem_cons_zero, List.setIfInBounds_toArray, List.set_cons_succ, List.set_cons_zero]
      refine wpAnyH_take (i := 14) (v := ?_) rfl (by kernel_rfl) (by kernel_rfl) (by kernel_rfl) (fun _ _ _ h => h) (Or.inl ⟨rfl, ?_⟩) hHeld ?_
      rotate_left
      · intro w' hS; obtain ⟨s0, s1⟩ := hS; go_simp <;> with_reducible rfl
      simp only [Act.put, List.getElem_toArray, List.getElem_cons_succ, List.getElem_cons_zero, List.setIfInBounds_toArray, List.set_cons_succ, List.set_cons_zero]
      refine wpAnyH_take (i := 15) (v := ?_) rfl (by kernel_rfl) (by kernel_rfl) (by kernel_rfl) (fun _ _ _ h => h) (Or.inl ⟨rfl, ?_⟩) hHeld ?_
      rotate_left
      · intro w' hS; obtain ⟨s0, s1⟩ := hS; go_simp <;> with_reducible rfl
      simp only [Act.put, List.getElem_toArray, List.getElem_cons_succ, List.getElem_cons_zero, List.setIfInBounds_toArray, List.set_cons_succ, List.set_cons_zero]
      refine wpAnyH_take (i := 16) (v := ?_) rfl (by kernel_rfl) (by kernel_rfl) (by kernel_rfl) (fun _ _ _ h => h) (Or.inl ⟨rfl, ?_⟩) hHeld ?_
      rotate_left
      · intro w' hS; obtain ⟨s0, s1⟩ := hS; go_simp <;> with_reducible rfl
      simp only [Act.put, List.getElem_toArray, List.getElem_cons_succ, List.getElem_cons_zero, List.setIfInBounds_toArray, List.set_cons_succ, List.set_cons_zero]
      refine wpAnyH_ready (rs := [17]) (by kernel_rfl) (by simp) (AllReadyH.cons rfl (fun K hK => ?_) AllReadyH.nil)
      go_simp
      refine (cuBits_any D l.length d l _ _ hD2 rfl hn HST.out (by omega)).mono ?_
      rintro e w3 ⟨rfl, rfl⟩
      refine hK.out _ _ (box1_of hc) (fun hHeld => ?_)
      clear hK K
      try simp only [Act.put, List.getElem_toArray, List.getElem_cons_succ, List.getElem_cons_zero, List.setIfInBounds_toArray, List.set_cons_succ, List.set_cons_zero]
      refine wpAnyH_ready (rs := [18]) (by kernel_rfl) (by simp) (AllReadyH.cons rfl (fun K hK => ?_) AllReadyH.nil)
      go_simp
      refine (cuCan_any k q x (maskOf l) _ hk HXL.out HM1.out HM2.out).mono ?_
      rintro e w4 ⟨rfl, hb⟩
      replace ht := below_then ht hb ht.size
      replace hc := hc.below hb
      clear hb
      refine hK.out _ _ (box1_of hc) (fun hHeld => ?_)
      clear hK K
      try simp only [Act.put, List.getElem_toArray, List.getElem_cons_succ, List.getElem_cons_zero, List.setIfInBounds_toArray, List.set_cons_succ, List.set_cons_zero]
      refine wpAnyH_take (i := 19) (v := ?_) rfl (by kernel_rfl) (by kernel_rfl) (by kernel_rfl) (fun _ _ _ h => h) (Or.inl ⟨rfl, ?_⟩) hHeld ?_
      rotate_left
      · intro w' hS; obtain ⟨s0, s1⟩ := hS; go_simp <;> with_reducible rfl
      simp only [Act.put, List.getElem_toArray, List.getElem_cons_succ, List.getElem_cons_zero, List.setIfInBounds_toArray, List.set_cons_succ, List.set_cons_zero]
      refine wpAnyH_take (i := 20) (v := ?_) rfl (by kernel_rfl) (by kernel_rfl) (by kernel_rfl) (fun _ _ _ h => h) (Or.inl ⟨rfl, ?_⟩) hHeld ?_
      rotate_left
      · intro w' hS; obtain ⟨s0, s1⟩ := hS; go_simp <;> with_reducible rfl
      simp only [Act.put, List.getElem_toArray, List.getElem_cons_succ, List.getElem_cons_zero, List.setIfInBounds_toArray, List.set_cons_succ, List.set_cons_zero]
      refine wpAnyH_done (by kernel_rfl) ?_ _
      clear hHeld
      go_wp2
      go_ret
      exact ⟨ret_of (by rw [HP.out]; rfl), ht⟩
end Go.Proofs.Ytoedcieofjcgkaa

namespace Go.Proofs.Ytoedcieofjcgkaa
open Go.RowKit

/-- The number of the state behind a row. -/
noncomputable def stepC (x : Nat) (l : List Int) : Nat := x ^^^ (2 * maskOf l + 1)
/-- Are the lists rows, one after the other, and does the last one end at e? -/
noncomputable def planM (k : Nat) (q : Int) (e : Nat) : Nat → List (List Int) → Bool
  | x, [] => decide (x = e)
  | x, l :: ls => tripM k q x l && planM k q e (stepC x l) ls
theorem planM_stop {k : Nat} {q : Int} {e x : Nat} {ls : List (List Int)} {j : Nat} (hj : j < ls.length) (h : tripM k q x ls[j] = false) : planM k q e x (ls.drop j) = false := by
  rw [List.drop_eq_getElem_cons hj, planM, h]; rfl
theorem planM_next {k : Nat} {q : Int} {e x : Nat} {ls : List (List Int)} {j : Nat} (hj : j < ls.length) (h : tripM k q x ls[j] = true) : planM k q e x (ls.drop j) = planM k q e (stepC x ls[j]) (ls.drop (j + 1)) := by
  rw [List.drop_eq_getElem_cons hj, planM, h]; rfl
theorem trip_mask {k : Nat} {q : Int} {x : Nat} {l : List Int} (hk : k ≤ 4) (h : tripM k q x l = true) : StepsTo l (2 * k - 1) l.length ∧ maskOf l < 2 ^ (2 * k) := by
  simp only [tripM, Bool.and_eq_true] at h
  have hst := rising_steps h.2.1
  have hlen := (within_iff.1 h.1).1
  exact ⟨hst, mask_lt (n := 2 * k) (by have := steps_len hst (by omega); omega) l (fun x hx => by have := (mem_steps hst hx).2; omega)⟩
theorem stepC_lt {k x : Nat} {l : List Int} (hx : x / 2 < 2 ^ (2 * k)) (hm : maskOf l < 2 ^ (2 * k)) : stepC x l / 2 < 2 ^ (2 * k) := by
  have ha : x < 2 ^ (2 * k + 1) := by rw [Nat.pow_succ]; omega
  have hb : 2 * maskOf l + 1 < 2 ^ (2 * k + 1) := by rw [Nat.pow_succ]; omega
  have := Nat.xor_lt_two_pow ha hb
  rw [Nat.pow_succ] at this
  unfold stepC
  omega

set_option maxHeartbeats 3200000 in
set_option maxRecDepth 100000 in
theorem cuPlan_any (k : Nat) (q : Int) (D : Option Addr) (n z : Nat) (rs : List RowV) (w : World) (hk : k ≤ 4) (hD : Grid w D rs) (hz : rs.length = n) (hn : n ≤ 9223372036854775807) :
    Calls Try.prog 61 #[.agg #[.int .i64 k, .int .i64 q], .slice D n z] w fun e w' => e = .returned (.bool (planM k q (2 * 2 ^ (2 * k) - 1) 0 (rowNums rs))) ∧ Below w.heap.size w w' := by
  obtain rfl : rs.length = n := hz
  have hp := pow_c hk
  have h1p : 1 ≤ 2 ^ (2 * k) := Nat.one_le_two_pow
  have hp0 := Whole.fresh w 28 #[.int .i64 k, .int .i64 q]
  have ht0 := below1 w (.cells #[.int .i64 k, .int .i64 q] 28)
  have hD0 := hD.alloc (.cells #[.int .i64 k, .int .i64 q] 28)
  obtain ⟨N, hN⟩ : ∃ N : Nat, N = 2 ^ (2 * k) := ⟨_, rfl⟩
  rw [← hN] at hp h1p
  have HNN := Lib.hid hN
  obtain ⟨P, hP⟩ : ∃ P : Bool, P = planM k q (2 * 2 ^ (2 * k) - 1) 0 (rowNums rs) := ⟨_, rfl⟩
  rw [← hP]
  have HP := Lib.hid hP
  have HLS := Lib.hid (rowNums_len rs)
  clear hP hN hD
  go_enter Try.func61, Try.ntmps61
  go_wp2_with fail
  go_loopw [5, 10] (fun v i wr => ∃ j x : Nat, j ≤ rs.length ∧ i = .int .i64 j ∧ v = .int .i64 x ∧ x / 2 < N ∧ P = planM k q (2 * N - 1) x ((rowNums rs).drop j) ∧ Whole wr w.heap.size 28 #[.int .i64 k, .int .i64 q] ∧ Grid wr D rs ∧ Below w.heap.size w wr) (fun _ i _ => rs.length - (intOf i).toNat)
  case atStart => exact ⟨0, 0, Nat.zero_le _, rfl, rfl, by omega, by rw [HP.out, HNN.out]; rfl, hp0, hD0, ht0⟩
  case round =>
    obtain ⟨j, x, hj, rfl, rfl, hxN, hpl, hc, hG, ht⟩ := hrel
    have HPL := Lib.hid hpl
    have HXN : Hid (x / 2 < 2 ^ (2 * k)) := by show _ < _; rw [← HNN.out]; exact hxN
    obtain ⟨c0, c1, -, -⟩ := hc.two
    clear hpl hp0 ht0 hD0
    by_cases hlt : j < rs.length
    · obtain ⟨b, o, rfl, hb, hcell, hrow, hrl, hrn⟩ := hG.look hlt
      have hlj : j < (rowNums rs).length := by rw [HLS.out]; exact hlt
      have HGT : Hid ((rowNums rs)[j] = rs[j].xs) := by show _ = _; simp [rowNums]
      cases hd : tripM k q x rs[j].xs
      · have HD := Lib.hid hd
        have HST : Hid (P = false) := by show _ = _; rw [HPL.out]; exact planM_stop hlj (by rw [HGT.out]; exact hd)
        clear hd
        go_wp2_with fail
        refine (cuTrip_any k q x _ _ _ rs[j].xs _ hk HXN.out hrow hrl hrn).mono ?_
        rintro e w1 ⟨rfl, hb1⟩
        rw [HD.out]
        have ht1 := below_then ht hb1 ht.size
        go_wp2
        go_ret
        exact ⟨ret_of (by rw [HST.out]; rfl), ht1⟩
      · have HD := Lib.hid hd
        obtain ⟨hst, hm⟩ := trip_mask hk hd
        have HM := Lib.hid hm
        have HSP := Lib.hid hst
        have hm8 : maskOf rs[j].xs < 256 := by have := HM.out; rw [← HNN.out] at this; omega
        have HNX : Hid (P = planM k q (2 * N - 1) (stepC x rs[j].xs) ((rowNums rs).drop (j + 1))) := by
          show _ = _
          rw [HPL.out, planM_next hlj (by rw [HGT.out]; exact hd), HGT.out]
        clear hd hst hm
        have HXX := Lib.hid (show Go.bits .xor .i64 (x : Int) (2 * (maskOf rs[j].xs : Int) + 1) = ((stepC x rs[j].xs : Nat) : Int) by
          rw [show (2 * (maskOf rs[j].xs : Int) + 1) = ((2 * maskOf rs[j].xs + 1 : Nat) : Int) by omega]; exact bits_xor_nat _ _ (by omega) (by omega))
        go_wp2_with fail
        refine (cuTrip_any k q x _ _ _ rs[j].xs _ hk HXN.out hrow hrl hrn).mono ?_
        rintro e w1 ⟨rfl, hb1⟩
        rw [HD.out]
        have ht1 := below_then ht hb1 ht.size
        have hc1 := hc.below hb1
        have hG1 := hG.below hb1
        have hrow1 := hrow.below hb1
        clear c0 c1 hc hG ht hcell
        go_wp2_with fail
        refine (cuBits_any _ _ _ rs[j].xs (2 * k - 1) _ hrow1 hrl hrn HSP.out (by omega)).mono ?_
        rintro e w2 ⟨rfl, rfl⟩
        go_wp2
        go_roundw
        case measure => simp [intOf]; omega
        case rel => exact ⟨j + 1, stepC x rs[j].xs, by omega, by go_num, by rw [HXX.out], by have := stepC_lt HXN.out HM.out; rw [← HNN.out] at this; exact this, HNX.out, hc1, hG1, ht1⟩
    · have hje : j = rs.length := by omega
      have HEN : Hid (P = decide (x = 2 * N - 1)) := by
        show _ = _
        rw [HPL.out, List.drop_eq_nil_of_le (by rw [HLS.out]; omega), planM]
      clear hje
      go_wp2_with fail
      refine (cuSize_any k q _ hk).mono ?_
      rintro e w1 ⟨rfl, hb1⟩
      rw [← HNN.out]
      have ht1 := below_then ht hb1 ht.size
      have HEQ : Hid (((x : Int) == 2 * (N : Int) - 1) = decide (x = 2 * N - 1)) := by
        show _ = _
        rw [Bool.eq_iff_iff]
        simp
        omega
      clear c0 c1 hc hG ht hb1
      go_wp2
      go_ret
      exact ⟨ret_of (by rw [HEN.out, HEQ.out]; rfl), ht1⟩
end Go.Proofs.Ytoedcieofjcgkaa

namespace Go.Proofs.Ytoedcieofjcgkaa
open Go.RowKit

theorem nat_bits {a b : Nat} (h : ∀ i, bitAt a i = bitAt b i) : a = b := Nat.eq_of_testBit_eq h
theorem bit_code (bs : List Bool) (t : Bool) (i : Nat) : bitAt (codeOf bs t) i = if i = 0 then t else (decide (i - 1 < bs.length) && bs.getD (i - 1) false) := by
  cases i with
  | zero =>
    rw [bitAt_def]
    unfold codeOf
    cases t <;> simp <;> omega
  | succ j =>
    have h := bit_maskUp (fun i => bs.getD i false) bs.length j
    rw [← code_half bs t] at h
    simp only [Nat.add_one_ne_zero, if_false, Nat.add_one_sub_one]
    rw [← h, bitAt, bitAt, Nat.testBit_succ]
theorem bit_step (l : List Int) (h0 : ∀ x ∈ l, 0 ≤ x) (i : Nat) : bitAt (2 * maskOf l + 1) i = if i = 0 then true else has l (i - 1) := by
  cases i with
  | zero => rw [bitAt_def]; simp
  | succ j =>
    simp only [Nat.add_one_ne_zero, if_false, Nat.add_one_sub_one]
    rw [← mask_bit l h0 j, bitAt, bitAt, Nat.testBit_succ]
    congr 1
    omega
/-- The number of the state behind a row. -/
theorem step_code {n : Nat} {bs : List Bool} {t : Bool} {l : List Int} (hb : bs.length = n) (h0 : ∀ x ∈ l, 0 ≤ x ∧ x < n) : stepC (codeOf bs t) l = codeOf (flipped bs l) (!t) := by
  apply nat_bits
  intro i
  have h1 := bit_code bs t i
  have h2 := bit_step l (fun x hx => (h0 x hx).1) i
  rw [bit_code, stepC, bitAt, Nat.testBit_xor]
  unfold bitAt at h1 h2
  rw [h1, h2]
  cases i with
  | zero => cases t <;> rfl
  | succ j =>
    simp only [Nat.add_one_ne_zero, if_false, Nat.add_one_sub_one]
    rw [flipped_len]
    by_cases hj : j < bs.length
    · rw [flipped_get _ _ hj]
      simp [hj]
    · have hn : has l j = false := by
        cases hh : has l j
        · rfl
        · have := (h0 _ (has_iff.1 hh)).2
          omega
      simp [hj, hn]

/-- Two rising lists of the same numbers are one list. -/
theorem rising_same : ∀ {a b : List Int}, a.Pairwise (· < ·) → b.Pairwise (· < ·) → (∀ x, x ∈ a ↔ x ∈ b) → a = b
  | [], [], _, _, _ => rfl
  | [], y :: ys, _, _, h => absurd ((h y).2 (by simp)) (by simp)
  | x :: xs, [], _, _, h => absurd ((h x).1 (by simp)) (by simp)
  | x :: xs, y :: ys, ha, hb, h => by
    obtain ⟨ha1, ha2⟩ := List.pairwise_cons.1 ha
    obtain ⟨hb1, hb2⟩ := List.pairwise_cons.1 hb
    have hxy : x = y := by
      rcases List.mem_cons.1 ((h x).1 (by simp)) with e | hx
      · exact e
      · rcases List.mem_cons.1 ((h y).2 (by simp)) with e | hy
        · exact e.symm
        · have h1 := hb1 _ hx
          have h2 := ha1 _ hy
          omega
    subst hxy
    rw [rising_same ha2 hb2 fun z => ⟨fun hz => ?_, fun hz => ?_⟩]
    · rcases List.mem_cons.1 ((h z).1 (List.mem_cons_of_mem _ hz)) with e | hz'
      · have := ha1 _ hz; omega
      · exact hz'
    · rcases List.mem_cons.1 ((h z).2 (List.mem_cons_of_mem _ hz)) with e | hz'
      · have := hb1 _ hz; omega
      · exact hz'
theorem mem_firsts {n : Nat} {x : Int} : x ∈ firsts n ↔ 0 ≤ x ∧ x < n := by
  constructor
  · intro h
    have := firsts_mem h
    omega
  · intro h
    exact List.mem_map.2 ⟨x.toNat, List.mem_range.2 (by omega), by simp; omega⟩
theorem steps_sub {n : Nat} {l : List Int} (hs : StepsTo l ((n : Int) - 1) l.length) : l.Sublist (firsts n) := by
  have hm : ∀ x, x ∈ l → x ∈ firsts n := fun x hx => mem_firsts.2 (by have := mem_steps hs hx; omega)
  have he : l = (firsts n).filter (fun x => decide (x ∈ l)) := rising_same (steps_pair hs) ((firsts_pair n).filter _) fun x => by
    rw [List.mem_filter, decide_eq_true_eq]
    exact ⟨fun h => ⟨hm x h, h⟩, fun h => h.2⟩
  rw [he]
  exact List.filter_sublist
/-- The rising lists of people of so many, so many at most. -/
theorem mem_up {n m : Nat} {l : List Int} : l ∈ upLists n m ↔ StepsTo l ((n : Int) - 1) l.length ∧ 1 ≤ l.length ∧ l.length ≤ m := by
  refine ⟨up_steps, fun ⟨h1, h2, h3⟩ => ?_⟩
  rw [upLists, subs_mem]
  exact ⟨l, rfl, by intro h; rw [h] at h2; simp at h2, steps_sub h1, h3⟩
theorem list_mask {l : List Int} (hs : StepsTo l 7 l.length) : listOf (maskOf l) = l := by
  have h8 : ∀ x ∈ l, 0 ≤ x ∧ x ≤ 7 := fun x hx => mem_steps hs hx
  refine rising_same ?_ (steps_pair hs) fun x => ?_
  · have h := (firsts_pair 8).sublist (l₁ := listOf (maskOf l)) (by unfold listOf listTo firsts; exact List.filter_sublist.map _)
    exact h
  · unfold listOf listTo
    rw [List.mem_map]
    constructor
    · rintro ⟨i, hi, rfl⟩
      rw [List.mem_filter, mask_bit l (fun x hx => (h8 x hx).1)] at hi
      exact has_iff.1 hi.2
    · intro hx
      have hb := h8 x hx
      refine ⟨x.toNat, List.mem_filter.2 ⟨List.mem_range.2 (by omega), ?_⟩, by simp; omega⟩
      rw [mask_bit l (fun x hx => (h8 x hx).1), has_iff]
      rw [Int.toNat_of_nonneg hb.1]
      exact hx
theorem bit_here {k : Nat} {bs : List Bool} {t : Bool} (hb : bs.length = 2 * k) (i : Nat) : bitAt (hereM k (codeOf bs t)) i = (decide (i < 2 * k) && (bs.getD i false == t)) := by
  have hm := bit_maskUp (fun i => bs.getD i false) bs.length
  have hlt := maskUp_lt (fun i => bs.getD i false) bs.length
  unfold hereM
  rw [code_half]
  cases t
  · rw [if_pos (by unfold codeOf; simp), ← hb, rest_bit hlt, hm]
    by_cases h : i < bs.length <;> simp [h]
  · rw [if_neg (by unfold codeOf; simp), hm, hb]
    by_cases h : i < 2 * k <;> simp [h]
theorem here_all {k : Nat} {bs : List Bool} {t : Bool} {l : List Int} (hb : bs.length = 2 * k) (h0 : ∀ x ∈ l, 0 ≤ x ∧ x < 2 * k) : decide (maskOf l &&& hereM k (codeOf bs t) = maskOf l) = allAt bs t l := by
  have hbit : ∀ i, bitAt (maskOf l &&& hereM k (codeOf bs t)) i = (has l i && (decide (i < 2 * k) && (bs.getD i false == t))) := fun i => by
    rw [← bit_here hb i, ← mask_bit l (fun x hx => (h0 x hx).1) i]
    exact Nat.testBit_and _ _ _
  have hml := mask_bit l (fun x hx => (h0 x hx).1)
  rw [Bool.eq_iff_iff, decide_eq_true_eq, allAt, List.all_eq_true]
  constructor
  · intro h x hx
    have hb0 := h0 x hx
    have h1 := hbit x.toNat
    rw [h, hml, has_iff.2 (by rw [Int.toNat_of_nonneg hb0.1]; exact hx)] at h1
    simp only [Bool.true_and] at h1
    exact (Bool.and_eq_true_iff.1 h1.symm).2
  · intro h
    refine nat_bits fun i => ?_
    rw [hbit, hml]
    cases hh : has l i
    · rfl
    · have hi := has_iff.1 hh
      have h1 := h _ hi
      have h2 := h0 _ hi
      simp only [Int.toNat_natCast] at h1
      rw [h1, Bool.true_and, Bool.and_true, decide_eq_true_eq]
      omega
/-- The model's rows and the program's are the same. -/
theorem trip_rows {k q : Nat} {bs : List Bool} {t : Bool} {l : List Int} (hk : k ≤ 4) (hb : bs.length = 2 * k) : tripM k q (codeOf bs t) l = decide (l ∈ rowsIn k q bs t) := by
  rw [Bool.eq_iff_iff, decide_eq_true_eq, rowsIn, rowsAmong, List.mem_filter, groupsOf, grpOf, List.mem_filter, mem_up]
  simp only [tripM, canM, Bool.and_eq_true, within_iff]
  constructor
  · rintro ⟨⟨h1, h2⟩, h3, h4, h5, h6, h7⟩
    have hst := rising_steps h3
    have hm : ∀ x ∈ l, 0 ≤ x ∧ x < 2 * k := fun x hx => by have := mem_steps hst hx; omega
    rw [here_all hb hm] at h4
    rw [calm_congr (g := has l) (fun i _ => mask_bit l (fun x hx => (hm x hx).1) i)] at h6
    have hs := step_code (t := t) hb (l := l) (fun x hx => by have := hm x hx; omega)
    rw [stepC] at hs
    rw [hs, quiet_code (by rw [flipped_len]; exact hb)] at h7
    exact ⟨⟨⟨by push_cast; exact hst, by omega, by omega⟩, h6⟩, h4, h7⟩
  · rintro ⟨⟨⟨hst, h1, h2⟩, h6⟩, h4, h7⟩
    have hm : ∀ x ∈ l, 0 ≤ x ∧ x < 2 * k := fun x hx => by have := mem_steps hst hx; omega
    rw [← here_all hb hm] at h4
    have hs := step_code (t := t) hb (l := l) (fun x hx => by have := hm x hx; omega)
    rw [stepC] at hs
    rw [hs, quiet_code (by rw [flipped_len]; exact hb)]
    rw [← calm_congr (f := bitAt (maskOf l)) (g := has l) (fun i _ => mask_bit l (fun x hx => (hm x hx).1) i)] at h6
    have h7' : StepsTo l 7 l.length := fun j hj => by
      have := hst j hj
      unfold Step at this ⊢
      omega
    refine ⟨⟨by omega, by omega⟩, rising_yes (by push_cast at hst; exact hst) (Nat.le_refl _), h4, ?_, h6, h7⟩
    rw [list_mask h7', decide_eq_true_eq]
    omega

/-- Are the lists rows, one after the other, told by places? -/
def playP (k q : Nat) : List Bool → Bool → List (List Int) → Bool
  | bs, t, [] => sameBits bs (trues (2 * k)) && t
  | bs, t, l :: ls => decide (l ∈ rowsIn k q bs t) && playP k q (flipped bs l) (!t) ls
theorem play_stop {k q : Nat} {bs : List Bool} {t : Bool} {ls : List (List Int)} {j : Nat} (hj : j < ls.length) (h : ls[j] ∉ rowsIn k q bs t) : playP k q bs t (ls.drop j) = false := by
  rw [List.drop_eq_getElem_cons hj, playP, decide_eq_false h]; rfl
theorem play_next {k q : Nat} {bs : List Bool} {t : Bool} {ls : List (List Int)} {j : Nat} (hj : j < ls.length) (h : ls[j] ∈ rowsIn k q bs t) : playP k q bs t (ls.drop j) = playP k q (flipped bs ls[j]) (!t) (ls.drop (j + 1)) := by
  rw [List.drop_eq_getElem_cons hj, playP, decide_eq_true h]; rfl
theorem rows_bound {k q : Nat} {bs : List Bool} {t : Bool} {l : List Int} (h : l ∈ rowsIn k q bs t) : ∀ x ∈ l, 0 ≤ x ∧ x < ((2 * k : Nat) : Int) := fun x hx => by
  have h1 := (mem_up.1 (groups_up (List.mem_filter.1 h).1)).1
  have := mem_steps h1 hx
  omega
theorem code_end {n : Nat} {bs : List Bool} {t : Bool} (hb : bs.length = n) : decide (codeOf bs t = 2 * 2 ^ n - 1) = (sameBits bs (trues n) && t) := by
  have hp : 1 ≤ 2 ^ n := Nat.one_le_two_pow
  have he : (2 : Nat) * 2 ^ n - 1 = 2 ^ (n + 1) - 1 := by rw [Nat.pow_succ]; omega
  rw [Bool.eq_iff_iff, decide_eq_true_eq, Bool.and_eq_true]
  constructor
  · intro h
    have hbit : ∀ i, bitAt (codeOf bs t) i = decide (i < n + 1) := fun i => by rw [h, he]; exact Nat.testBit_two_pow_sub_one ..
    have h0 := hbit 0
    rw [bit_code] at h0
    have ht : t = true := by simpa using h0
    refine ⟨sameBits_yes (List.ext_getElem (by rw [hb, trues_len]) fun i h1 h2 => ?_), ht⟩
    have h3 := hbit (i + 1)
    rw [bit_code] at h3
    simp only [Nat.add_one_ne_zero, if_false, Nat.add_one_sub_one] at h3
    have h4 : bs.getD i false = true := by
      have : decide (i + 1 < n + 1) = true := by simp; omega
      rw [this] at h3
      exact (Bool.and_eq_true_iff.1 h3).2
    rw [show bs[i] = bs.getD i false by simp [h1], h4]
    simp [trues]
  · rintro ⟨h, ht⟩
    have h : bs = trues n := by simpa [sameBits] using h
    refine nat_bits fun i => ?_
    rw [bit_code, he, h, ht, trues_len]
    cases i with
    | zero => rw [bitAt, Nat.testBit_two_pow_sub_one]; simp
    | succ j =>
      rw [bitAt, Nat.testBit_two_pow_sub_one]
      simp only [Nat.add_one_ne_zero, if_false, Nat.add_one_sub_one]
      by_cases hj : j < n <;> simp [hj, trues]
/-- Both tests of a plan tell the same. -/
theorem plan_play {k q : Nat} (hk : k ≤ 4) : ∀ (ls : List (List Int)) (bs : List Bool) (t : Bool), bs.length = 2 * k → planM k q (2 * 2 ^ (2 * k) - 1) (codeOf bs t) ls = playP k q bs t ls
  | [], bs, t, hb => by rw [planM, playP, code_end hb]
  | l :: ls, bs, t, hb => by
    rw [planM, playP, trip_rows hk hb]
    by_cases h : l ∈ rowsIn k q bs t
    · rw [step_code hb (rows_bound h), plan_play hk ls (flipped bs l) (!t) (by rw [flipped_len]; exact hb)]
    · rw [decide_eq_false h]; rfl
theorem code_first (n : Nat) : codeOf (falses n) false = 0 := by
  refine nat_bits fun i => ?_
  rw [bit_code, bitAt, Nat.zero_testBit]
  cases i <;> simp [falses, List.getElem?_replicate]
  split <;> (intro; rfl)
end Go.Proofs.Ytoedcieofjcgkaa

namespace Go.Proofs.Ytoedcieofjcgkaa
open Go.RowKit

set_option maxHeartbeats 800000 in
theorem loParty_any (A : Option Addr) (n c : Nat) (B : Option Addr) (m d : Nat) (s : Int) (w : World) :
    Calls Try.prog 95 #[.agg #[.slice A n c, .slice B m d, .int .i64 s]] w fun e w' => e = .returned (.agg #[.slice A n c, .int .i64 0]) ∧ Below w.heap.size w w' := by
  have h0 := (Whole.fresh w 39 #[.slice A n c, .slice B m d, .int .i64 s]).alloc (.cells #[.slice none 0 0, .int .i64 0] 117)
  have h1 := Whole.fresh (w.alloc (.cells #[.slice A n c, .slice B m d, .int .i64 s] 39)) 117 #[.slice none 0 0, .int .i64 0]
  rw [World.size_alloc] at h1
  have ht := below2 w (.cells #[.slice A n c, .slice B m d, .int .i64 s] 39) (.cells #[.slice none 0 0, .int .i64 0] 117)
  go_enter Try.func95, Try.ntmps95
  go_wp2
  refine bodyPost_ret (v := .agg #[.slice A n c, .int .i64 0]) (by simp [results, Try.results95, go_sem]) rfl ⟨rfl, ?_⟩
  first
    | exact below_set (below_set ht (by omega)) (by omega)
    | exact ht
    | exact below1 w _
    | exact below2 w _ _

/-- A crew and a state of it. -/
def crewState (xs : List Int) (m : Nat) (s : Int) (sb : List Bool) (t : Bool) : Bool := isCrew xs m s && isState xs.length sb t

set_option maxHeartbeats 3200000 in
set_option maxRecDepth 100000 in
set_option linter.unusedSimpArgs false in
set_option linter.unusedVariables false in
theorem loAsked_any (A : Option Addr) (n c : Nat) (B : Option Addr) (m d : Nat) (xs : List Int) (s : Int) (D : Option Addr) (q z : Nat) (sb : List Bool) (t : Bool) (w : World) (hA : Holds w A (nums xs)) (hD : Holds w D (bits sb)) (hx : xs.length = n) (hqq : sb.length = q) (hn : n ≤ 9223372036854775807) (hq : q ≤ 9223372036854775807) :
    Calls Try.prog 71 #[.agg #[.slice A n c, .slice B m d, .int .i64 s], .agg #[.slice D q z, .bool t]] w fun e w' => e = .returned (.bool (crewState xs m s sb t)) ∧ Below w.heap.size w w' := by
  have HX := Lib.hid hx
  have HQ := Lib.hid hqq
  have hcr := (Whole.fresh w 39 #[.slice A n c, .slice B m d, .int .i64 s]).alloc (.cells #[.slice D q z, .bool t] 48)
  have hst := Whole.fresh (w.alloc (.cells #[.slice A n c, .slice B m d, .int .i64 s] 39)) 48 #[.slice D q z, .bool t]
  rw [World.size_alloc] at hst
  have ht := below2 w (.cells #[.slice A n c, .slice B m d, .int .i64 s] 39) (.cells #[.slice D q z, .bool t] 48)
  cases hp : isCrew xs m s
  · have HO : Hid (crewState xs m s sb t = false) := by show _ = _; simp [crewState, hp]
    have HP := Lib.hid hp
    clear hp hx hqq
    go_enter Try.func71, Try.ntmps71
    go_wp2_with fail
    refine wp_region_held_drew (S := (fun w' => Box3 w.heap.size (.slice A n c) (.slice B m d) (.int .i64 s) w' ∧ Box1 (w.heap.size + 1) (.slice D q z) (.bool t) w')) (by kernel_rfl) ⟨box3_of hcr.drew, box1_of hst.drew⟩ (fun hHeld => ?_)
    replace hcr := hcr.drew
    replace hst := hst.drew
    replace ht := ht.drew
    generalize World.drew (World.alloc (World.alloc w (.cells #[.slice A n c, .slice B m d, .int .i64 s] 39)) (.cells #[.slice D q z, .bool t] 48)) = wd at hcr hst ht hHeld ⊢
    refine wpAnyH_take (i := 0) (v := ?_) rfl (by kernel_rfl) (by kernel_rfl) (by kernel_rfl) (fun _ _ _ h => h) (Or.inl ⟨rfl, ?_⟩) hHeld ?_
    rotate_left
    · intro w' hS; obtain ⟨⟨a0, a1, a2⟩, b0, b1⟩ := hS; go_simp <;> with_reducible rfl
    simp only [Act.put, List.getElem_toArray, List.getElem_cons_succ, List.getElem_cons_zero, List.setIfInBounds_toArray, List.set_cons_succ, List.set_cons_zero]
    refine wpAnyH_ready (rs := [1]) (by kernel_rfl) (by simp) (AllReadyH.cons rfl (fun K hK => ?_) AllReadyH.nil)
    go_simp
    refine (loGood_any A n c B m d xs s _ (by exact hA.below ht) HX.out hn).mono ?_
    rintro e wx ⟨rfl, hb⟩
    rw [HP.out]
    replace hcr := hcr.below hb
    replace hst := hst.below hb
    replace ht := below_then ht hb ht.size
    clear hb
    refine hK.out _ _ ⟨box3_of hcr, box1_of hst⟩ (fun hHeld => ?_)
    clear hK K
    try simp only [Act.put, List.getElem_toArray, List.getElem_cons_succ, List.getElem_cons_zero, List.setIfInBounds_toArray, List.set_cons_succ, List.set_cons_zero]
    refine wpAnyH_take (i := 2) (v := ?_) rfl (by kernel_rfl) (by kernel_rfl) (by kernel_rfl) (fun _ _ _ h => h) (Or.inl ⟨rfl, ?_⟩) hHeld ?_
    rotate_left
    · intro w' hS; obtain ⟨⟨a0, a1, a2⟩, b0, b1⟩ := hS; go_simp <;> with_reducible rfl
    simp only [Act.put, List.getElem_toArray, List.getElem_cons_succ, List.getElem_cons_zero, List.setIfInBounds_toArray, List.set_cons_succ, List.set_cons_zero]
    refine wpAnyH_take (i := 3) (v := undef) rfl (by kernel_rfl) (by kernel_rfl) (by kernel_rfl) (fun _ _ _ h => h) (Or.inr ⟨by simp [Region.wanted, yielded], rfl⟩) hHeld ?_
    simp only [Act.put, List.getElem_toArray, List.getElem_cons_succ, List.getElem_cons_zero, List.setIfInBounds_toArray, List.set_cons_succ, List.set_cons_zero]
    refine wpAnyH_take (i := 4) (v := undef) rfl (by kernel_rfl) (by kernel_rfl) (by kernel_rfl) (fun _ _ _ h => h) (Or.inr ⟨by simp [Region.wanted, yielded], rfl⟩) hHeld ?_
    simp only [Act.put, List.getElem_toArray, List.getElem_cons_succ, List.getElem_cons_zero, List.setIfInBounds_toArray, List.set_cons_succ, List.set_cons_zero]
    refine wpAnyH_take (i := 5) (v := undef) rfl (by kernel_rfl) (by kernel_rfl) (by kernel_rfl) (fun _ _ _ h => h) (Or.inr ⟨by simp [Region.wanted, yielded], rfl⟩) hHeld ?_
    simp only [Act.put, List.getElem_toArray, List.getElem_cons_succ, List.getElem_cons_zero, List.setIfInBounds_toArray, List.set_cons_succ, List.set_cons_zero]
    refine wpAnyH_take (i := 6) (v := undef) rfl (by kernel_rfl) (by kernel_rfl) (by kernel_rfl) (fun _ _ _ h => h) (Or.inr ⟨by simp [Region.wanted, yielded], rfl⟩) hHeld ?_
    simp only [Act.put, List.getElem_toArray, List.getElem_cons_succ, List.getElem_cons_zero, List.setIfInBounds_toArray, List.set_cons_succ, List.set_cons_zero]
    refine wpAnyH_take (i := 7) (v := ?_) rfl (by kernel_rfl) (by kernel_rfl) (by kernel_rfl) (fun _ _ _ h => h) (Or.inl ⟨rfl, ?_⟩) hHeld ?_
    rotate_left
    · intro w' hS; obtain ⟨⟨a0, a1, a2⟩, b0, b1⟩ := hS; go_simp <;> with_reducible rfl
    simp only [Act.put, List.getElem_toArray, List.getElem_cons_succ, List.getElem_cons_zero, List.setIfInBounds_toArray, List.set_cons_succ, List.set_cons_zero]
    refine wpAnyH_take (i := 8) (v := ?_) rfl (by kernel_rfl) (by kernel_rfl) (by kernel_rfl) (fun _ _ _ h => h) (Or.inl ⟨rfl, ?_⟩) hHeld ?_
    rotate_left
    · intro w' hS; obtain ⟨⟨a0, a1, a2⟩, b0, b1⟩ := hS; go_simp <;> with_reducible rfl
    simp only [Act.put, List.getElem_toArray, List.getElem_cons_succ, List.getElem_cons_zero, List.setIfInBounds_toArray, List.set_cons_succ, List.set_cons_zero]
    refine wpAnyH_done (by kernel_rfl) ?_ _
    clear hHeld
    go_wp2
    go_ret
    exact ⟨ret_of (by rw [HO.out]; rfl), ht⟩
  · have HO : Hid (crewState xs m s sb t = isState n sb t) := by show _ = _; simp [crewState, hp, hx]
    have HP := Lib.hid hp
    clear hp hx hqq
    go_enter Try.func71, Try.ntmps71
    go_wp2_with fail
    refine wp_region_held_drew (S := (fun w' => Box3 w.heap.size (.slice A n c) (.slice B m d) (.int .i64 s) w' ∧ Box1 (w.heap.size + 1) (.slice D q z) (.bool t) w')) (by kernel_rfl) ⟨box3_of hcr.drew, box1_of hst.drew⟩ (fun hHeld => ?_)
    replace hcr := hcr.drew
    replace hst := hst.drew
    replace ht := ht.drew
    generalize World.drew (World.alloc (World.alloc w (.cells #[.slice A n c, .slice B m d, .int .i64 s] 39)) (.cells #[.slice D q z, .bool t] 48)) = wd at hcr hst ht hHeld ⊢
    refine wpAnyH_take (i := 0) (v := ?_) rfl (by kernel_rfl) (by kernel_rfl) (by kernel_rfl) (fun _ _ _ h => h) (Or.inl ⟨rfl, ?_⟩) hHeld ?_
    rotate_left
    · intro w' hS; obtain ⟨⟨a0, a1, a2⟩, b0, b1⟩ := hS; go_simp <;> with_reducible rfl
    simp only [Act.put, List.getElem_toArray, List.getElem_cons_succ, List.getElem_cons_zero, List.setIfInBounds_toArray, List.set_cons_succ, List.set_cons_zero]
    refine wpAnyH_ready (rs := [1]) (by kernel_rfl) (by simp) (AllReadyH.cons rfl (fun K hK => ?_) AllReadyH.nil)
    go_simp
    refine (loGood_any A n c B m d xs s _ (by exact hA.below ht) HX.out hn).mono ?_
    rintro e wx ⟨rfl, hb⟩
    rw [HP.out]
    replace hcr := hcr.below hb
    replace hst := hst.below hb
    replace ht := below_then ht hb ht.size
    clear hb
    refine hK.out _ _ ⟨box3_of hcr, box1_of hst⟩ (fun hHeld => ?_)
    clear hK K
    try simp only [Act.put, List.getElem_toArray, List.getElem_cons_succ, List.getElem_cons_zero, List.setIfInBounds_toArray, List.set_cons_succ, List.set_cons_zero]
    refine wpAnyH_take (i := 2) (v := ?_) rfl (by kernel_rfl) (by kernel_rfl) (by kernel_rfl) (fun _ _ _ h => h) (Or.inl ⟨rfl, ?_⟩) hHeld ?_
    rotate_left
    · intro w' hS; obtain ⟨⟨a0, a1, a2⟩, b0, b1⟩ := hS; go_simp <;> with_reducible rfl
    simp only [Act.put, List.getElem_toArray, List.getElem_cons_succ, List.getElem_cons_zero, List.setIfInBounds_toArray, List.set_cons_succ, List.set_cons_zero]
    refine wpAnyH_take (i := 3) (v := ?_) rfl (by kernel_rfl) (by kernel_rfl) (by kernel_rfl) (fun _ _ _ h => h) (Or.inl ⟨rfl, ?_⟩) hHeld ?_
    rotate_left
    · intro w' hS; obtain ⟨⟨a0, a1, a2⟩, b0, b1⟩ := hS; go_simp <;> with_reducible rfl
    simp only [Act.put, List.getElem_toArray, List.getElem_cons_succ, List.getElem_cons_zero, List.setIfInBounds_toArray, List.set_cons_succ, List.set_cons_zero]
    refine wpAnyH_take (i := 5) (v := ?_) rfl (by kernel_rfl) (by kernel_rfl) (by kernel_rfl) (fun _ _ _ h => h) (Or.inl ⟨rfl, ?_⟩) hHeld ?_
    rotate_left
    · intro w' hS; obtain ⟨⟨a0, a1, a2⟩, b0, b1⟩ := hS; go_simp <;> with_reducible rfl
    simp only [Act.put, List.getElem_toArray, List.getElem_cons_succ, List.getElem_cons_zero, List.setIfInBounds_toArray, List.set_cons_succ, List.set_cons_zero]
    refine wpAnyH_ready (rs := [4]) (by kernel_rfl) (by simp) (AllReadyH.cons rfl (fun K hK => ?_) AllReadyH.nil)
    go_simp
    refine (loParty_any A n c B m d s _).mono ?_
    rintro e wx ⟨rfl, hb⟩
    replace hcr := hcr.below hb
    replace hst := hst.below hb
    replace ht := below_then ht hb ht.size
    clear hb
    refine hK.out _ _ ⟨box3_of hcr, box1_of hst⟩ (fun hHeld => ?_)
    clear hK K
    try simp only [Act.put, List.getElem_toArray, List.getElem_cons_succ, List.getElem_cons_zero, List.setIfInBounds_toArray, List.set_cons_succ, List.set_cons_zero]
    refine wpAnyH_ready (rs := [6]) (by kernel_rfl) (by simp) (AllReadyH.cons rfl (fun K hK => ?_) AllReadyH.nil)
    go_simp
    refine (paState_any A D n c q z sb 0 t _ (by exact hD.below ht) HQ.out hq).mono ?_
    rintro e wx ⟨rfl, hb⟩
    replace hcr := hcr.below hb
    replace hst := hst.below hb
    replace ht := below_then ht hb ht.size
    clear hb
    refine hK.out _ _ ⟨box3_of hcr, box1_of hst⟩ (fun hHeld => ?_)
    clear hK K
    try simp only [Act.put, List.getElem_toArray, List.getElem_cons_succ, List.getElem_cons_zero, List.setIfInBounds_toArray, List.set_cons_succ, List.set_cons_zero]
    refine wpAnyH_take (i := 7) (v := ?_) rfl (by kernel_rfl) (by kernel_rfl) (by kernel_rfl) (fun _ _ _ h => h) (Or.inl ⟨rfl, ?_⟩) hHeld ?_
    rotate_left
    · intro w' hS; obtain ⟨⟨a0, a1, a2⟩, b0, b1⟩ := hS; go_simp <;> with_reducible rfl
    simp only [Act.put, List.getElem_toArray, List.getElem_cons_succ, List.getElem_cons_zero, List.setIfInBounds_toArray, List.set_cons_succ, List.set_cons_zero]
    refine wpAnyH_take (i := 8) (v := ?_) rfl (by kernel_rfl) (by kernel_rfl) (by kernel_rfl) (fun _ _ _ h => h) (Or.inl ⟨rfl, ?_⟩) hHeld ?_
    rotate_left
    · intro w' hS; obtain ⟨⟨a0, a1, a2⟩, b0, b1⟩ := hS; go_simp <;> with_reducible rfl
    simp only [Act.put, List.getElem_toArray, List.getElem_cons_succ, List.getElem_cons_zero, List.setIfInBounds_toArray, List.set_cons_succ, List.set_cons_zero]
    refine wpAnyH_done (by kernel_rfl) ?_ _
    clear hHeld
    go_wp2
    go_ret
    exact ⟨ret_of (by rw [HO.out]; rfl), ht⟩

/-- Is a list a ride in a state? -/
noncomputable def canRide (xs : List Int) (bs : List Bool) (s : Int) (sb : List Bool) (t : Bool) (l : List Int) : Bool := decide (l ≠ []) && (rising l ((xs.length : Int) - 1) && (decide (loadOf xs l ≤ s) && (allAt sb t l && canRow bs l)))
theorem ride_nil {xs : List Int} {bs : List Bool} {s : Int} {sb : List Bool} {t : Bool} : canRide xs bs s sb t [] = false := by simp [canRide]
theorem ride_fall {xs : List Int} {bs : List Bool} {s : Int} {sb : List Bool} {t : Bool} {l : List Int} (h : rising l ((xs.length : Int) - 1) = false) : canRide xs bs s sb t l = false := by simp [canRide, h]
theorem ride_load {xs : List Int} {bs : List Bool} {s : Int} {sb : List Bool} {t : Bool} {l : List Int} (h : s < loadOf xs l) : canRide xs bs s sb t l = false := by
  have h1 : decide (loadOf xs l ≤ s) = false := by simp; omega
  simp [canRide, h1]
theorem ride_at {xs : List Int} {bs : List Bool} {s : Int} {sb : List Bool} {t : Bool} {l : List Int} (h : allAt sb t l = false) : canRide xs bs s sb t l = false := by simp [canRide, h]
theorem ride_yes {xs : List Int} {bs : List Bool} {s : Int} {sb : List Bool} {t : Bool} {l : List Int} (h0 : l ≠ []) (h1 : rising l ((xs.length : Int) - 1) = true) (h2 : loadOf xs l ≤ s) (h3 : allAt sb t l = true) : canRide xs bs s sb t l = canRow bs l := by simp [canRide, h0, h1, h2, h3]
/-- The rides in a state, as both sides tell them. -/
theorem ride_mem {xs : List Int} {bs : List Bool} {s : Int} {sb : List Bool} {t : Bool} {l : List Int} : canRide xs bs s sb t l = true ↔ l ∈ (crewLists xs bs s).filter (fun l => allAt sb t l) := by
  simp only [crewLists, legsIn, List.mem_filter, legOk, canRide, Bool.and_eq_true, decide_eq_true_eq, mem_up]
  constructor
  · rintro ⟨h0, h1, h2, h3, h4⟩
    exact ⟨⟨⟨rising_steps h1, by have := List.length_pos_iff.2 h0; omega, rising_short h1⟩, h4, h2⟩, h3⟩
  · rintro ⟨⟨⟨h1, h2, h3⟩, h4, h5⟩, h6⟩
    exact ⟨fun e => by subst e; simp at h2, rising_yes h1 (Nat.le_refl _), h5, h6, h4⟩
/-- Some of the first k can row. -/
theorem canRow_next {bs : List Bool} {l : List Int} {k : Nat} (hk : k < l.length) : canRow bs (l.take (k + 1)) = (canRow bs (l.take k) || bs.getD (l[k]).toNat false) := by
  rw [List.take_succ_eq_append_getElem hk, canRow, List.any_append]; simp [canRow]

set_option maxHeartbeats 6400000 in
set_option maxRecDepth 100000 in
set_option linter.unusedSimpArgs false in
set_option linter.unusedVariables false in
theorem loCan_any (A : Option Addr) (n c : Nat) (B : Option Addr) (m d : Nat) (xs : List Int) (bs : List Bool) (s : Int) (D : Option Addr) (q z : Nat) (sb : List Bool) (t : Bool) (E : Option Addr) (r y : Nat) (l : List Int) (w : World) (hA : Holds w A (nums xs)) (hB : Holds w B (bits bs)) (hD : Holds w D (bits sb)) (hE : Holds w E (nums l)) (hx : xs.length = n) (hy : bs.length = m) (hqq : sb.length = q) (hl : l.length = r) (hr : r ≤ 9223372036854775807) (hcw : CrewOk xs m s) (hsl : sb.length = xs.length) :
    Calls Try.prog 76 #[.agg #[.slice A n c, .slice B m d, .int .i64 s], .agg #[.slice D q z, .bool t], .slice E r y] w fun e w' => e = .returned (.bool (canRide xs bs s sb t l)) ∧ Below w.heap.size w w' := by
  have hn7 : n ≤ 7 := by have := hcw.seven; omega
  have HX := Lib.hid hx
  have HQ := Lib.hid hqq
  have HL := Lib.hid hl
  have HY := Lib.hid hy
  have HW := Lib.hid hcw.weights
  have HR := Lib.hid hcw.rows
  have HSL := Lib.hid hsl
  have hnc : (n : Int) - 1 = (xs.length : Int) - 1 := by omega
  have hwr : IntKind.i64.wrap ((n : Int) - 1) = (n : Int) - 1 := IntWalk.i64_in _ (by omega)
  have hcr := (Whole.fresh w 39 #[.slice A n c, .slice B m d, .int .i64 s]).alloc (.cells #[.slice D q z, .bool t] 48)
  have hst := Whole.fresh (w.alloc (.cells #[.slice A n c, .slice B m d, .int .i64 s] 39)) 48 #[.slice D q z, .bool t]
  rw [World.size_alloc] at hst
  have ht := below2 w (.cells #[.slice A n c, .slice B m d, .int .i64 s] 39) (.cells #[.slice D q z, .bool t] 48)
  by_cases h0 : l = []
  · subst h0
    have hr0 : ((r : Int) == 0) = true := by simp at hl; simp [← hl]
    have HO := Lib.hid (ride_nil (xs := xs) (bs := bs) (s := s) (sb := sb) (t := t))
    clear hx hy hqq hl hsl hcw hnc
    go_enter Try.func76, Try.ntmps76
    go_wp2_with fail
    refine wp_region_held_drew (S := (fun w' => Box3 w.heap.size (.slice A n c) (.slice B m d) (.int .i64 s) w' ∧ Box1 (w.heap.size + 1) (.slice D q z) (.bool t) w')) (by kernel_rfl) ⟨box3_of hcr.drew, box1_of hst.drew⟩ (fun hHeld => ?_)
    replace hcr := hcr.drew
    replace hst := hst.drew
    replace ht := ht.drew
    generalize World.drew (World.alloc (World.alloc w (.cells #[.slice A n c, .slice B m d, .int .i64 s] 39)) (.cells #[.slice D q z, .bool t] 48)) = wd at hcr hst ht hHeld ⊢
    refine wpAnyH_take (i := 0) (v := ?_) rfl (by kernel_rfl) (by kernel_rfl) (by kernel_rfl) (fun _ _ _ h => h) (Or.inl ⟨rfl, ?_⟩) hHeld ?_
    rotate_left
    · intro w' hS; obtain ⟨⟨a0, a1, a2⟩, b0, b1⟩ := hS; go_simp <;> with_reducible rfl
    simp only [Act.put, List.getElem_toArray, List.getElem_cons_succ, List.getElem_cons_zero, List.setIfInBounds_toArray, List.set_cons_succ, List.set_cons_zero]
    refine wpAnyH_take (i := 1) (v := ?_) rfl (by kernel_rfl) (by kernel_rfl) (by kernel_rfl) (fun _ _ _ h => h) (Or.inl ⟨rfl, ?_⟩) hHeld ?_
    rotate_left
    · intro w' hS; obtain ⟨⟨a0, a1, a2⟩, b0, b1⟩ := hS; go_simp <;> with_reducible rfl
    simp only [Act.put, List.getElem_toArray, List.getElem_cons_succ, List.getElem_cons_zero, List.setIfInBounds_toArray, List.set_cons_succ, List.set_cons_zero]
    refine wpAnyH_take (i := 2) (v := ?_) rfl (by kernel_rfl) (by kernel_rfl) (by kernel_rfl) (fun _ _ _ h => h) (Or.inl ⟨rfl, ?_⟩) hHeld ?_
    rotate_left
    · intro w' hS; obtain ⟨⟨a0, a1, a2⟩, b0, b1⟩ := hS; go_simp <;> with_reducible rfl
    simp only [Act.put, List.getElem_toArray, List.getElem_cons_succ, List.getElem_cons_zero, List.setIfInBounds_toArray, List.set_cons_succ, List.set_cons_zero]
    refine wpAnyH_take (i := 3) (v := ?_) rfl (by kernel_rfl) (by kernel_rfl) (by kernel_rfl) (fun _ _ _ h => h) (Or.inl ⟨rfl, ?_⟩) hHeld ?_
    rotate_left
    · intro w' hS; obtain ⟨⟨a0, a1, a2⟩, b0, b1⟩ := hS; go_simp <;> with_reducible rfl
    simp only [Act.put, List.getElem_toArray, List.getElem_cons_succ, List.getElem_cons_zero, List.setIfInBounds_toArray, List.set_cons_succ, List.set_cons_zero]
    refine wpAnyH_take (i := 4) (v := undef) rfl (by kernel_rfl) (by kernel_rfl) (by kernel_rfl) (fun _ _ _ h => h) (Or.inr ⟨by simp [Region.wanted, yielded], rfl⟩) hHeld ?_
    simp only [Act.put, List.getElem_toArray, List.getElem_cons_succ, List.getElem_cons_zero, List.setIfInBounds_toArray, List.set_cons_succ, List.set_cons_zero]
    refine wpAnyH_take (i := 5) (v := undef) rfl (by kernel_rfl) (by kernel_rfl) (by kernel_rfl) (fun _ _ _ h => h) (Or.inr ⟨by simp [Region.wanted, yielded], rfl⟩) hHeld ?_
    simp only [Act.put, List.getElem_toArray, List.getElem_cons_succ, List.getElem_cons_zero, List.setIfInBounds_toArray, List.set_cons_succ, List.set_cons_zero]
    refine wpAnyH_take (i := 6) (v := undef) rfl (by kernel_rfl) (by kernel_rfl) (by kernel_rfl) (fun _ _ _ h => h) (Or.inr ⟨by simp [Region.wanted, yielded], rfl⟩) hHeld ?_
    simp only [Act.put, List.getElem_toArray, List.getElem_cons_succ, List.getElem_cons_zero, List.setIfInBounds_toArray, List.set_cons_succ, List.set_cons_zero]
    refine wpAnyH_take (i := 7) (v := undef) rfl (by kernel_rfl) (by kernel_rfl) (by kernel_rfl) (fun _ _ _ h => h) (Or.inr ⟨by simp [Region.wanted, yielded], rfl⟩) hHeld ?_
    simp only [Act.put, List.getElem_toArray, List.getElem_cons_succ, List.getElem_cons_zero, List.setIfInBounds_toArray, List.set_cons_succ, List.set_cons_zero]
    refine wpAnyH_take (i := 8) (v := undef) rfl (by kernel_rfl) (by kernel_rfl) (by kernel_rfl) (fun _ _ _ h => h) (Or.inr ⟨by simp [Region.wanted, yielded], rfl⟩) hHeld ?_
    simp only [Act.put, List.getElem_toArray, List.getElem_cons_succ, List.getElem_cons_zero, List.setIfInBounds_toArray, List.set_cons_succ, List.set_cons_zero]
    refine wpAnyH_take (i := 9) (v := undef) rfl (by kernel_rfl) (by kernel_rfl) (by kernel_rfl) (fun _ _ _ h => h) (Or.inr ⟨by simp [Region.wanted, yielded], rfl⟩) hHeld ?_
    simp only [Act.put, List.getElem_toArray, List.getElem_cons_succ, List.getElem_cons_zero, List.setIfInBounds_toArray, List.set_cons_succ, List.set_cons_zero]
    refine wpAnyH_take (i := 10) (v := undef) rfl (by kernel_rfl) (by kernel_rfl) (by kernel_rfl) (fun _ _ _ h => h) (Or.inr ⟨by simp [Region.wanted, yielded], rfl⟩) hHeld ?_
    simp only [Act.put, List.getElem_toArray, List.getElem_cons_succ, List.getElem_cons_zero, List.setIfInBounds_toArray, List.set_cons_succ, List.set_cons_zero]
    refine wpAnyH_take (i := 11) (v := ?_) rfl (by kernel_rfl) (by kernel_rfl) (by kernel_rfl) (fun _ _ _ h => h) (Or.inl ⟨rfl, ?_⟩) hHeld ?_
    rotate_left
    · intro w' hS; obtain ⟨⟨a0, a1, a2⟩, b0, b1⟩ := hS; go_simp <;> with_reducible rfl
    simp only [Act.put, List.getElem_toArray, List.getElem_cons_succ, List.getElem_cons_zero, List.setIfInBounds_toArray, List.set_cons_succ, List.set_cons_zero]
    refine wpAnyH_take (i := 12) (v := ?_) rfl (by kernel_rfl) (by kernel_rfl) (by kernel_rfl) (fun _ _ _ h => h) (Or.inl ⟨rfl, ?_⟩) hHeld ?_
    rotate_left
    · intro w' hS; obtain ⟨⟨a0, a1, a2⟩, b0, b1⟩ := hS; go_simp <;> with_reducible rfl
    simp only [Act.put, List.getElem_toArray, List.getElem_cons_succ, List.getElem_cons_zero, List.setIfInBounds_toArray, List.set_cons_succ, List.set_cons_zero]
    refine wpAnyH_take (i := 13) (v := undef) rfl (by kernel_rfl) (by kernel_rfl) (by kernel_rfl) (fun _ _ _ h => h) (Or.inr ⟨by simp [Region.wanted, yielded], rfl⟩) hHeld ?_
    simp only [Act.put, List.getElem_toArray, List.getElem_cons_succ, List.getElem_cons_zero, List.setIfInBounds_toArray, List.set_cons_succ, List.set_cons_zero]
    refine wpAnyH_take (i := 14) (v := undef) rfl (by kernel_rfl) (by kernel_rfl) (by kernel_rfl) (fun _ _ _ h => h) (Or.inr ⟨by simp [Region.wanted, yielded], rfl⟩) hHeld ?_
    simp only [Act.put, List.getElem_toArray, List.getElem_cons_succ, List.getElem_cons_zero, List.setIfInBounds_toArray, List.set_cons_succ, List.set_cons_zero]
    refine wpAnyH_take (i := 15) (v := undef) rfl (by kernel_rfl) (by kernel_rfl) (by kernel_rfl) (fun _ _ _ h => h) (Or.inr ⟨by simp [Region.wanted, yielded], rfl⟩) hHeld ?_
    simp only [Act.put, List.getElem_toArray, List.getElem_cons_succ, List.getElem_cons_zero, List.setIfInBounds_toArray, List.set_cons_succ, List.set_cons_zero]
    refine wpAnyH_take (i := 16) (v := undef) rfl (by kernel_rfl) (by kernel_rfl) (by kernel_rfl) (fun _ _ _ h => h) (Or.inr ⟨by simp [Region.wanted, yielded], rfl⟩) hHeld ?_
    simp only [Act.put, List.getElem_toArray, List.getElem_cons_succ, List.getElem_cons_zero, List.setIfInBounds_toArray, List.set_cons_succ, List.set_cons_zero]
    refine wpAnyH_take (i := 17) (v := undef) rfl (by kernel_rfl) (by kernel_rfl) (by kernel_rfl) (fun _ _ _ h => h) (Or.inr ⟨by simp [Region.wanted, yielded], rfl⟩) hHeld ?_
    simp only [Act.put, List.getElem_toArray, List.getElem_cons_succ, List.getElem_cons_zero, List.setIfInBounds_toArray, List.set_cons_succ, List.set_cons_zero]
    refine wpAnyH_take (i := 18) (v := undef) rfl (by kernel_rfl) (by kernel_rfl) (by kernel_rfl) (fun _ _ _ h => h) (Or.inr ⟨by simp [Region.wanted, yielded], rfl⟩) hHeld ?_
    simp only [Act.put, List.getElem_toArray, List.getElem_cons_succ, List.getElem_cons_zero, List.setIfInBounds_toArray, List.set_cons_succ, List.set_cons_zero]
    refine wpAnyH_take (i := 19) (v := ?_) rfl (by kernel_rfl) (by kernel_rfl) (by kernel_rfl) (fun _ _ _ h => h) (Or.inl ⟨rfl, ?_⟩) hHeld ?_
    rotate_left
    · intro w' hS; obtain ⟨⟨a0, a1, a2⟩, b0, b1⟩ := hS; go_simp <;> with_reducible rfl
    simp only [Act.put, List.getElem_toArray, List.getElem_cons_succ, List.getElem_cons_zero, List.setIfInBounds_toArray, List.set_cons_succ, List.set_cons_zero]
    refine wpAnyH_done (by kernel_rfl) ?_ _
    clear hHeld
    go_wp2
    go_ret
    exact ⟨ret_of (by rw [HO.out]; rfl), ht⟩
  have hr0 : ((r : Int) == 0) = false := by have := List.length_pos_iff.2 h0; simp; omega
  have H0 := Lib.hid h0
  clear h0
  cases hri : rising l ((n : Int) - 1)
  · have HO := Lib.hid (ride_fall (bs := bs) (s := s) (sb := sb) (t := t) (by rw [← hnc]; exact hri))
    have HRI := Lib.hid hri
    clear hx hy hqq hl hsl hcw hnc hri
    go_enter Try.func76, Try.ntmps76
    go_wp2_with fail
    refine wp_region_held_drew (S := (fun w' => Box3 w.heap.size (.slice A n c) (.slice B m d) (.int .i64 s) w' ∧ Box1 (w.heap.size + 1) (.slice D q z) (.bool t) w')) (by kernel_rfl) ⟨box3_of hcr.drew, box1_of hst.drew⟩ (fun hHeld => ?_)
    replace hcr := hcr.drew
    replace hst := hst.drew
    replace ht := ht.drew
    generalize World.drew (World.alloc (World.alloc w (.cells #[.slice A n c, .slice B m d, .int .i64 s] 39)) (.cells #[.slice D q z, .bool t] 48)) = wd at hcr hst ht hHeld ⊢
    refine wpAnyH_take (i := 0) (v := ?_) rfl (by kernel_rfl) (by kernel_rfl) (by kernel_rfl) (fun _ _ _ h => h) (Or.inl ⟨rfl, ?_⟩) hHeld ?_
    rotate_left
    · intro w' hS; obtain ⟨⟨a0, a1, a2⟩, b0, b1⟩ := hS; go_simp <;> with_reducible rfl
    simp only [Act.put, List.getElem_toArray, List.getElem_cons_succ, List.getElem_cons_zero, List.setIfInBounds_toArray, List.set_cons_succ, List.set_cons_zero]
    refine wpAnyH_take (i := 1) (v := ?_) rfl (by kernel_rfl) (by kernel_rfl) (by kernel_rfl) (fun _ _ _ h => h) (Or.inl ⟨rfl, ?_⟩) hHeld ?_
    rotate_left
    · intro w' hS; obtain ⟨⟨a0, a1, a2⟩, b0, b1⟩ := hS; go_simp <;> with_reducible rfl
    simp only [Act.put, List.getElem_toArray, List.getElem_cons_succ, List.getElem_cons_zero, List.setIfInBounds_toArray, List.set_cons_succ, List.set_cons_zero]
    refine wpAnyH_take (i := 2) (v := ?_) rfl (by kernel_rfl) (by kernel_rfl) (by kernel_rfl) (fun _ _ _ h => h) (Or.inl ⟨rfl, ?_⟩) hHeld ?_
    rotate_left
    · intro w' hS; obtain ⟨⟨a0, a1, a2⟩, b0, b1⟩ := hS; go_simp <;> with_reducible rfl
    simp only [Act.put, List.getElem_toArray, List.getElem_cons_succ, List.getElem_cons_zero, List.setIfInBounds_toArray, List.set_cons_succ, List.set_cons_zero]
    refine wpAnyH_take (i := 3) (v := ?_) rfl (by kernel_rfl) (by kernel_rfl) (by kernel_rfl) (fun _ _ _ h => h) (Or.inl ⟨rfl, ?_⟩) hHeld ?_
    rotate_left
    · intro w' hS; obtain ⟨⟨a0, a1, a2⟩, b0, b1⟩ := hS; go_simp <;> with_reducible rfl
    simp only [Act.put, List.getElem_toArray, List.getElem_cons_succ, List.getElem_cons_zero, List.setIfInBounds_toArray, List.set_cons_succ, List.set_cons_zero]
    refine wpAnyH_take (i := 4) (v := ?_) rfl (by kernel_rfl) (by kernel_rfl) (by kernel_rfl) (fun _ _ _ h => h) (Or.inl ⟨rfl, ?_⟩) hHeld ?_
    rotate_left
    · intro w' hS; obtain ⟨⟨a0, a1, a2⟩, b0, b1⟩ := hS; go_simp <;> with_reducible rfl
    simp only [Act.put, List.getElem_toArray, List.getElem_cons_succ, List.getElem_cons_zero, List.setIfInBounds_toArray, List.set_cons_succ, List.set_cons_zero]
    refine wpAnyH_take (i := 5) (v := ?_) rfl (by kernel_rfl) (by kernel_rfl) (by kernel_rfl) (fun _ _ _ h => h) (Or.inl ⟨rfl, ?_⟩) hHeld ?_
    rotate_left
    · intro w' hS; obtain ⟨⟨a0, a1, a2⟩, b0, b1⟩ := hS; go_simp <;> with_reducible rfl
    simp only [Act.put, List.getElem_toArray, List.getElem_cons_succ, List.getElem_cons_zero, List.setIfInBounds_toArray, List.set_cons_succ, List.set_cons_zero]
    refine wpAnyH_take (i := 6) (v := ?_) rfl (by kernel_rfl) (by kernel_rfl) (by kernel_rfl) (fun _ _ _ h => h) (Or.inl ⟨rfl, ?_⟩) hHeld ?_
    rotate_left
    · intro w' hS; obtain ⟨⟨a0, a1, a2⟩, b0, b1⟩ := hS; go_simp <;> with_reducible rfl
    simp only [Act.put, List.getElem_toArray, List.getElem_cons_succ, List.getElem_cons_zero, List.setIfInBounds_toArray, List.set_cons_succ, List.set_cons_zero]
    refine wpAnyH_take (i := 7) (v := ?_) rfl (by kernel_rfl) (by kernel_rfl) (by kernel_rfl) (fun _ _ _ h => h) (Or.inl ⟨rfl, ?_⟩) hHeld ?_
    rotate_left
    · intro w' hS; obtain ⟨⟨a0, a1, a2⟩, b0, b1⟩ := hS; go_simp <;> with_reducible rfl
    simp only [Act.put, List.getElem_toArray, List.getElem_cons_succ, List.getElem_cons_zero, List.setIfInBounds_toArray, List.set_cons_succ, List.set_cons_zero]
    refine wpAnyH_take (i := 8) (v := ?_) rfl (by kernel_rfl) (by kernel_rfl) (by kernel_rfl) (fun _ _ _ h => h) (Or.inl ⟨rfl, ?_⟩) hHeld ?_
    rotate_left
    · intro w' hS; obtain ⟨⟨a0, a1, a2⟩, b0, b1⟩ := hS; go_simp <;> with_reducible rfl
    simp only [Act.put, List.getElem_toArray, List.getElem_cons_succ, List.getElem_cons_zero, List.setIfInBounds_toArray, List.set_cons_succ, List.set_cons_zero]
    refine wpAnyH_ready (rs := [9]) (by kernel_rfl) (by simp) (AllReadyH.cons rfl (fun K hK => ?_) AllReadyH.nil)
    go_simp
    refine (l1Rising_any E r y l _ _ (by exact hE.below ht) HL.out hr).mono ?_
    rintro e wx ⟨rfl, rfl⟩
    rw [HRI.out]
    refine hK.out _ _ ⟨box3_of hcr, box1_of hst⟩ (fun hHeld => ?_)
    clear hK K
    try simp only [Act.put, List.getElem_toArray, List.getElem_cons_succ, List.getElem_cons_zero, List.setIfInBounds_toArray, List.set_cons_succ, List.set_cons_zero]
    refine wpAnyH_take (i := 10) (v := ?_) rfl (by kernel_rfl) (by kernel_rfl) (by kernel_rfl) (fun _ _ _ h => h) (Or.inl ⟨rfl, ?_⟩) hHeld ?_
    rotate_left
    · intro w' hS; obtain ⟨⟨a0, a1, a2⟩, b0, b1⟩ := hS; go_simp <;> with_reducible rfl
    simp only [Act.put, List.getElem_toArray, List.getElem_cons_succ, List.getElem_cons_zero, List.setIfInBounds_toArray, List.set_cons_succ, List.set_cons_zero]
    refine wpAnyH_take (i := 11) (v := ?_) rfl (by kernel_rfl) (by kernel_rfl) (by kernel_rfl) (fun _ _ _ h => h) (Or.inl ⟨rfl, ?_⟩) hHeld ?_
    rotate_left
    · intro w' hS; obtain ⟨⟨a0, a1, a2⟩, b0, b1⟩ := hS; go_simp <;> with_reducible rfl
    simp only [Act.put, List.getElem_toArray, List.getElem_cons_succ, List.getElem_cons_zero, List.setIfInBounds_toArray, List.set_cons_succ, List.set_cons_zero]
    refine wpAnyH_take (i := 12) (v := ?_) rfl (by kernel_rfl) (by kernel_rfl) (by kernel_rfl) (fun _ _ _ h => h) (Or.inl ⟨rfl, ?_⟩) hHeld ?_
    rotate_left
    · intro w' hS; obtain ⟨⟨a0, a1, a2⟩, b0, b1⟩ := hS; go_simp <;> with_reducible rfl
    simp only [Act.put, List.getElem_toArray, List.getElem_cons_succ, List.getElem_cons_zero, List.setIfInBounds_toArray, List.set_cons_succ, List.set_cons_zero]
    refine wpAnyH_take (i := 13) (v := undef) rfl (by kernel_rfl) (by kernel_rfl) (by kernel_rfl) (fun _ _ _ h => h) (Or.inr ⟨by simp [Region.wanted, yielded], rfl⟩) hHeld ?_
    simp only [Act.put, List.getElem_toArray, List.getElem_cons_succ, List.getElem_cons_zero, List.setIfInBounds_toArray, List.set_cons_succ, List.set_cons_zero]
    refine wpAnyH_take (i := 14) (v := undef) rfl (by kernel_rfl) (by kernel_rfl) (by kernel_rfl) (fun _ _ _ h => h) (Or.inr ⟨by simp [Region.wanted, yielded], rfl⟩) hHeld ?_
    simp only [Act.put, List.getElem_toArray, List.getElem_cons_succ, List.getElem_cons_zero, List.setIfInBounds_toArray, List.set_cons_succ, List.set_cons_zero]
    refine wpAnyH_take (i := 15) (v := undef) rfl (by kernel_rfl) (by kernel_rfl) (by kernel_rfl) (fun _ _ _ h => h) (Or.inr ⟨by simp [Region.wanted, yielded], rfl⟩) hHeld ?_
    simp only [Act.put, List.getElem_toArray, List.getElem_cons_succ, List.getElem_cons_zero, List.setIfInBounds_toArray, List.set_cons_succ, List.set_cons_zero]
    refine wpAnyH_take (i := 16) (v := undef) rfl (by kernel_rfl) (by kernel_rfl) (by kernel_rfl) (fun _ _ _ h => h) (Or.inr ⟨by simp [Region.wanted, yielded], rfl⟩) hHeld ?_
    simp only [Act.put, List.getElem_toArray, List.getElem_cons_succ, List.getElem_cons_zero, List.setIfInBounds_toArray, List.set_cons_succ, List.set_cons_zero]
    refine wpAnyH_take (i := 17) (v := undef) rfl (by kernel_rfl) (by kernel_rfl) (by kernel_rfl) (fun _ _ _ h => h) (Or.inr ⟨by simp [Region.wanted, yielded], rfl⟩) hHeld ?_
    simp only [Act.put, List.getElem_toArray, List.getElem_cons_succ, List.getElem_cons_zero, List.setIfInBounds_toArray, List.set_cons_succ, List.set_cons_zero]
    refine wpAnyH_take (i := 18) (v := undef) rfl (by kernel_rfl) (by kernel_rfl) (by kernel_rfl) (fun _ _ _ h => h) (Or.inr ⟨by simp [Region.wanted, yielded], rfl⟩) hHeld ?_
    simp only [Act.put, List.getElem_toArray, List.getElem_cons_succ, List.getElem_cons_zero, List.setIfInBounds_toArray, List.set_cons_succ, List.set_cons_zero]
    refine wpAnyH_take (i := 19) (v := ?_) rfl (by kernel_rfl) (by kernel_rfl) (by kernel_rfl) (fun _ _ _ h => h) (Or.inl ⟨rfl, ?_⟩) hHeld ?_
    rotate_left
    · intro w' hS; obtain ⟨⟨a0, a1, a2⟩, b0, b1⟩ := hS; go_simp <;> with_reducible rfl
    simp only [Act.put, List.getElem_toArray, List.getElem_cons_succ, List.getElem_cons_zero, List.setIfInBounds_toArray, List.set_cons_succ, List.set_cons_zero]
    refine wpAnyH_done (by kernel_rfl) ?_ _
    clear hHeld
    go_wp2
    go_ret
    exact ⟨ret_of (by rw [HO.out]; rfl), ht⟩
  have HRI := Lib.hid hri
  have HRX : Hid (rising l ((xs.length : Int) - 1) = true) := by show _ = _; rw [← hnc]; exact hri
  have HIN : Hid (∀ y ∈ l, 0 ≤ y ∧ y < n) := fun y hy => rising_in hri y hy
  have hr8 : r ≤ 8 := by have := rising_short hri; omega
  have hbd := loadOf_bound HW.out l
  obtain ⟨Wt, hWt⟩ : ∃ Wt, Wt = loadOf xs l := ⟨_, rfl⟩
  have HWT := Lib.hid hWt
  rw [← hWt] at hbd
  have hsm : 0 ≤ s ∧ s ≤ 2000 := hcw.most
  clear hri hx hy hqq hl hsl hcw hnc
  by_cases hle : s < Wt
  · have HO := Lib.hid (ride_load (bs := bs) (sb := sb) (t := t) (by rw [← hWt]; exact hle))
    have hd : decide (Wt > s) = true := by simp; omega
    clear hWt
    go_enter Try.func76, Try.ntmps76
    go_wp2_with fail
    refine wp_region_held_drew (S := (fun w' => Box3 w.heap.size (.slice A n c) (.slice B m d) (.int .i64 s) w' ∧ Box1 (w.heap.size + 1) (.slice D q z) (.bool t) w')) (by kernel_rfl) ⟨box3_of hcr.drew, box1_of hst.drew⟩ (fun hHeld => ?_)
    replace hcr := hcr.drew
    replace hst := hst.drew
    replace ht := ht.drew
    generalize World.drew (World.alloc (World.alloc w (.cells #[.slice A n c, .slice B m d, .int .i64 s] 39)) (.cells #[.slice D q z, .bool t] 48)) = wd at hcr hst ht hHeld ⊢
    refine wpAnyH_take (i := 0) (v := ?_) rfl (by kernel_rfl) (by kernel_rfl) (by kernel_rfl) (fun _ _ _ h => h) (Or.inl ⟨rfl, ?_⟩) hHeld ?_
    rotate_left
    · intro w' hS; obtain ⟨⟨a0, a1, a2⟩, b0, b1⟩ := hS; go_simp <;> with_reducible rfl
    simp only [Act.put, List.getElem_toArray, List.getElem_cons_succ, List.getElem_cons_zero, List.setIfInBounds_toArray, List.set_cons_succ, List.set_cons_zero]
    refine wpAnyH_take (i := 1) (v := ?_) rfl (by kernel_rfl) (by kernel_rfl) (by kernel_rfl) (fun _ _ _ h => h) (Or.inl ⟨rfl, ?_⟩) hHeld ?_
    rotate_left
    · intro w' hS; obtain ⟨⟨a0, a1, a2⟩, b0, b1⟩ := hS; go_simp <;> with_reducible rfl
    simp only [Act.put, List.getElem_toArray, List.getElem_cons_succ, List.getElem_cons_zero, List.setIfInBounds_toArray, List.set_cons_succ, List.set_cons_zero]
    refine wpAnyH_take (i := 2) (v := ?_) rfl (by kernel_rfl) (by kernel_rfl) (by kernel_rfl) (fun _ _ _ h => h) (Or.inl ⟨rfl, ?_⟩) hHeld ?_
    rotate_left
    · intro w' hS; obtain ⟨⟨a0, a1, a2⟩, b0, b1⟩ := hS; go_simp <;> with_reducible rfl
    simp only [Act.put, List.getElem_toArray, List.getElem_cons_succ, List.getElem_cons_zero, List.setIfInBounds_toArray, List.set_cons_succ, List.set_cons_zero]
    refine wpAnyH_take (i := 3) (v := ?_) rfl (by kernel_rfl) (by kernel_rfl) (by kernel_rfl) (fun _ _ _ h => h) (Or.inl ⟨rfl, ?_⟩) hHeld ?_
    rotate_left
    · intro w' hS; obtain ⟨⟨a0, a1, a2⟩, b0, b1⟩ := hS; go_simp <;> with_reducible rfl
    simp only [Act.put, List.getElem_toArray, List.getElem_cons_succ, List.getElem_cons_zero, List.setIfInBounds_toArray, List.set_cons_succ, List.set_cons_zero]
    refine wpAnyH_take (i := 4) (v := ?_) rfl (by kernel_rfl) (by kernel_rfl) (by kernel_rfl) (fun _ _ _ h => h) (Or.inl ⟨rfl, ?_⟩) hHeld ?_
    rotate_left
    · intro w' hS; obtain ⟨⟨a0, a1, a2⟩, b0, b1⟩ := hS; go_simp <;> with_reducible rfl
    simp only [Act.put, List.getElem_toArray, List.getElem_cons_succ, List.getElem_cons_zero, List.setIfInBounds_toArray, List.set_cons_succ, List.set_cons_zero]
    refine wpAnyH_take (i := 5) (v := ?_) rfl (by kernel_rfl) (by kernel_rfl) (by kernel_rfl) (fun _ _ _ h => h) (Or.inl ⟨rfl, ?_⟩) hHeld ?_
    rotate_left
    · intro w' hS; obtain ⟨⟨a0, a1, a2⟩, b0, b1⟩ := hS; go_simp <;> with_reducible rfl
    simp only [Act.put, List.getElem_toArray, List.getElem_cons_succ, List.getElem_cons_zero, List.setIfInBounds_toArray, List.set_cons_succ, List.set_cons_zero]
    refine wpAnyH_take (i := 6) (v := ?_) rfl (by kernel_rfl) (by kernel_rfl) (by kernel_rfl) (fun _ _ _ h => h) (Or.inl ⟨rfl, ?_⟩) hHeld ?_
    rotate_left
    · intro w' hS; obtain ⟨⟨a0, a1, a2⟩, b0, b1⟩ := hS; go_simp <;> with_reducible rfl
    simp only [Act.put, List.getElem_toArray, List.getElem_cons_succ, List.getElem_cons_zero, List.setIfInBounds_toArray, List.set_cons_succ, List.set_cons_zero]
    refine wpAnyH_take (i := 7) (v := ?_) rfl (by kernel_rfl) (by kernel_rfl) (by kernel_rfl) (fun _ _ _ h => h) (Or.inl ⟨rfl, ?_⟩) hHeld ?_
    rotate_left
    · intro w' hS; obtain ⟨⟨a0, a1, a2⟩, b0, b1⟩ := hS; go_simp <;> with_reducible rfl
    simp only [Act.put, List.getElem_toArray, List.getElem_cons_succ, List.getElem_cons_zero, List.setIfInBounds_toArray, List.set_cons_succ, List.set_cons_zero]
    refine wpAnyH_take (i := 8) (v := ?_) rfl (by kernel_rfl) (by kernel_rfl) (by kernel_rfl) (fun _ _ _ h => h) (Or.inl ⟨rfl, ?_⟩) hHeld ?_
    rotate_left
    · intro w' hS; obtain ⟨⟨a0, a1, a2⟩, b0, b1⟩ := hS; go_simp <;> with_reducible rfl
    simp only [Act.put, List.getElem_toArray, List.getElem_cons_succ, List.getElem_cons_zero, List.setIfInBounds_toArray, List.set_cons_succ, List.set_cons_zero]
    refine wpAnyH_ready (rs := [9]) (by kernel_rfl) (by simp) (AllReadyH.cons rfl (fun K hK => ?_) AllReadyH.nil)
    go_simp
    refine (l1Rising_any E r y l _ _ (by exact hE.below ht) HL.out hr).mono ?_
    rintro e wx ⟨rfl, rfl⟩
    rw [HRI.out]
    refine hK.out _ _ ⟨box3_of hcr, box1_of hst⟩ (fun hHeld => ?_)
    clear hK K
    try simp only [Act.put, List.getElem_toArray, List.getElem_cons_succ, List.getElem_cons_zero, List.setIfInBounds_toArray, List.set_cons_succ, List.set_cons_zero]
    refine wpAnyH_take (i := 10) (v := ?_) rfl (by kernel_rfl) (by kernel_rfl) (by kernel_rfl) (fun _ _ _ h => h) (Or.inl ⟨rfl, ?_⟩) hHeld ?_
    rotate_left
    · intro w' hS; obtain ⟨⟨a0, a1, a2⟩, b0, b1⟩ := hS; go_simp <;> with_reducible rfl
    simp only [Act.put, List.getElem_toArray, List.getElem_cons_succ, List.getElem_cons_zero, List.setIfInBounds_toArray, List.set_cons_succ, List.set_cons_zero]
    refine wpAnyH_take (i := 11) (v := ?_) rfl (by kernel_rfl) (by kernel_rfl) (by kernel_rfl) (fun _ _ _ h => h) (Or.inl ⟨rfl, ?_⟩) hHeld ?_
    rotate_left
    · intro w' hS; obtain ⟨⟨a0, a1, a2⟩, b0, b1⟩ := hS; go_simp <;> with_reducible rfl
    simp only [Act.put, List.getElem_toArray, List.getElem_cons_succ, List.getElem_cons_zero, List.setIfInBounds_toArray, List.set_cons_succ, List.set_cons_zero]
    refine wpAnyH_take (i := 12) (v := ?_) rfl (by kernel_rfl) (by kernel_rfl) (by kernel_rfl) (fun _ _ _ h => h) (Or.inl ⟨rfl, ?_⟩) hHeld ?_
    rotate_left
    · intro w' hS; obtain ⟨⟨a0, a1, a2⟩, b0, b1⟩ := hS; go_simp <;> with_reducible rfl
    simp only [Act.put, List.getElem_toArray, List.getElem_cons_succ, List.getElem_cons_zero, List.setIfInBounds_toArray, List.set_cons_succ, List.set_cons_zero]
    refine wpAnyH_take (i := 13) (v := ?_) rfl (by kernel_rfl) (by kernel_rfl) (by kernel_rfl) (fun _ _ _ h => h) (Or.inl ⟨rfl, ?_⟩) hHeld ?_
    rotate_left
    · intro w' hS; obtain ⟨⟨a0, a1, a2⟩, b0, b1⟩ := hS; go_simp <;> with_reducible rfl
    simp only [Act.put, List.getElem_toArray, List.getElem_cons_succ, List.getElem_cons_zero, List.setIfInBounds_toArray, List.set_cons_succ, List.set_cons_zero]
    refine wpAnyH_take (i := 14) (v := ?_) rfl (by kernel_rfl) (by kernel_rfl) (by kernel_rfl) (fun _ _ _ h => h) (Or.inl ⟨rfl, ?_⟩) hHeld ?_
    rotate_left
    · intro w' hS; obtain ⟨⟨a0, a1, a2⟩, b0, b1⟩ := hS; go_simp <;> with_reducible rfl
    simp only [Act.put, List.getElem_toArray, List.getElem_cons_succ, List.getElem_cons_zero, List.setIfInBounds_toArray, List.set_cons_succ, List.set_cons_zero]
    refine wpAnyH_take (i := 16) (v := ?_) rfl (by kernel_rfl) (by kernel_rfl) (by kernel_rfl) (fun _ _ _ h => h) (Or.inl ⟨rfl, ?_⟩) hHeld ?_
    rotate_left
    · intro w' hS; obtain ⟨⟨a0, a1, a2⟩, b0, b1⟩ := hS; go_simp <;> with_reducible rfl
    simp only [Act.put, List.getElem_toArray, List.getElem_cons_succ, List.getElem_cons_zero, List.setIfInBounds_toArray, List.set_cons_succ, List.set_cons_zero]
    refine wpAnyH_take (i := 17) (v := ?_) rfl (by kernel_rfl) (by kernel_rfl) (by kernel_rfl) (fun _ _ _ h => h) (Or.inl ⟨rfl, ?_⟩) hHeld ?_
    rotate_left
    · intro w' hS; obtain ⟨⟨a0, a1, a2⟩, b0, b1⟩ := hS; go_simp <;> with_reducible rfl
    simp only [Act.put, List.getElem_toArray, List.getElem_cons_succ, List.getElem_cons_zero, List.setIfInBounds_toArray, List.set_cons_succ, List.set_cons_zero]
    refine wpAnyH_ready (rs := [15]) (by kernel_rfl) (by simp) (AllReadyH.cons rfl (fun K hK => ?_) AllReadyH.nil)
    go_simp
    refine (loLoad_any A n c B m d xs s E r y l _ (by exact hA.below ht) (by exact hE.below ht) HX.out HL.out hn7 hr HW.out HIN.out hr8).mono ?_
    rintro e wx ⟨rfl, hb⟩
    replace hcr := hcr.below hb
    replace hst := hst.below hb
    replace ht := below_then ht hb ht.size
    clear hb
    refine hK.out _ _ ⟨box3_of hcr, box1_of hst⟩ (fun hHeld => ?_)
    clear hK K
    try simp only [Act.put, List.getElem_toArray, List.getElem_cons_succ, List.getElem_cons_zero, List.setIfInBounds_toArray, List.set_cons_succ, List.set_cons_zero]
    refine wpAnyH_take (i := 18) (v := ?_) rfl (by kernel_rfl) (by kernel_rfl) (by kernel_rfl) (fun _ _ _ h => h) (Or.inl ⟨rfl, ?_⟩) hHeld ?_
    rotate_left
    · intro w' hS; obtain ⟨⟨a0, a1, a2⟩, b0, b1⟩ := hS; go_simp <;> with_reducible rfl
    simp only [Act.put, List.getElem_toArray, List.getElem_cons_succ, List.getElem_cons_zero, List.setIfInBounds_toArray, List.set_cons_succ, List.set_cons_zero]
    refine wpAnyH_take (i := 19) (v := ?_) rfl (by kernel_rfl) (by kernel_rfl) (by kernel_rfl) (fun _ _ _ h => h) (Or.inl ⟨rfl, ?_⟩) hHeld ?_
    rotate_left
    · intro w' hS; obtain ⟨⟨a0, a1, a2⟩, b0, b1⟩ := hS; go_simp <;> with_reducible rfl
    simp only [Act.put, List.getElem_toArray, List.getElem_cons_succ, List.getElem_cons_zero, List.setIfInBounds_toArray, List.set_cons_succ, List.set_cons_zero]
    refine wpAnyH_done (by kernel_rfl) ?_ _
    clear hHeld
    rw [← HWT.out]
    go_wp2
    go_ret
    exact ⟨ret_of (by rw [HO.out]; rfl), ht⟩
  have hd : decide (Wt > s) = false := by simp; omega
  have HLE := Lib.hid (show loadOf xs l ≤ s by rw [← hWt]; omega)
  clear hWt hd
  have hd : decide (s < Wt) = false := by simpa using hle
  go_enter Try.func76, Try.ntmps76
  go_wp2_with fail
  refine wp_region_held_drew (S := (fun w' => Box3 w.heap.size (.slice A n c) (.slice B m d) (.int .i64 s) w' ∧ Box1 (w.heap.size + 1) (.slice D q z) (.bool t) w')) (by kernel_rfl) ⟨box3_of hcr.drew, box1_of hst.drew⟩ (fun hHeld => ?_)
  replace hcr := hcr.drew
  replace hst := hst.drew
  replace ht := ht.drew
  generalize World.drew (World.alloc (World.alloc w (.cells #[.slice A n c, .slice B m d, .int .i64 s] 39)) (.cells #[.slice D q z, .bool t] 48)) = wd at hcr hst ht hHeld ⊢
  refine wpAnyH_take (i := 0) (v := ?_) rfl (by kernel_rfl) (by kernel_rfl) (by kernel_rfl) (fun _ _ _ h => h) (Or.inl ⟨rfl, ?_⟩) hHeld ?_
  rotate_left
  · intro w' hS; obtain ⟨⟨a0, a1, a2⟩, b0, b1⟩ := hS; go_simp <;> with_reducible rfl
  simp only [Act.put, List.getElem_toArray, List.getElem_cons_succ, List.getElem_cons_zero, List.setIfInBounds_toArray, List.set_cons_succ, List.set_cons_zero]
  refine wpAnyH_take (i := 1) (v := ?_) rfl (by kernel_rfl) (by kernel_rfl) (by kernel_rfl) (fun _ _ _ h => h) (Or.inl ⟨rfl, ?_⟩) hHeld ?_
  rotate_left
  · intro w' hS; obtain ⟨⟨a0, a1, a2⟩, b0, b1⟩ := hS; go_simp <;> with_reducible rfl
  simp only [Act.put, List.getElem_toArray, List.getElem_cons_succ, List.getElem_cons_zero, List.setIfInBounds_toArray, List.set_cons_succ, List.set_cons_zero]
  refine wpAnyH_take (i := 2) (v := ?_) rfl (by kernel_rfl) (by kernel_rfl) (by kernel_rfl) (fun _ _ _ h => h) (Or.inl ⟨rfl, ?_⟩) hHeld ?_
  rotate_left
  · intro w' hS; obtain ⟨⟨a0, a1, a2⟩, b0, b1⟩ := hS; go_simp <;> with_reducible rfl
  simp only [Act.put, List.getElem_toArray, List.getElem_cons_succ, List.getElem_cons_zero, List.setIfInBounds_toArray, List.set_cons_succ, List.set_cons_zero]
  refine wpAnyH_take (i := 3) (v := ?_) rfl (by kernel_rfl) (by kernel_rfl) (by kernel_rfl) (fun _ _ _ h => h) (Or.inl ⟨rfl, ?_⟩) hHeld ?_
  rotate_left
  · intro w' hS; obtain ⟨⟨a0, a1, a2⟩, b0, b1⟩ := hS; go_simp <;> with_reducible rfl
  simp only [Act.put, List.getElem_toArray, List.getElem_cons_succ, List.getElem_cons_zero, List.setIfInBounds_toArray, List.set_cons_succ, List.set_cons_zero]
  refine wpAnyH_take (i := 4) (v := ?_) rfl (by kernel_rfl) (by kernel_rfl) (by kernel_rfl) (fun _ _ _ h => h) (Or.inl ⟨rfl, ?_⟩) hHeld ?_
  rotate_left
  · intro w' hS; obtain ⟨⟨a0, a1, a2⟩, b0, b1⟩ := hS; go_simp <;> with_reducible rfl
  simp only [Act.put, List.getElem_toArray, List.getElem_cons_succ, List.getElem_cons_zero, List.setIfInBounds_toArray, List.set_cons_succ, List.set_cons_zero]
  refine wpAnyH_take (i := 5) (v := ?_) rfl (by kernel_rfl) (by kernel_rfl) (by kernel_rfl) (fun _ _ _ h => h) (Or.inl ⟨rfl, ?_⟩) hHeld ?_
  rotate_left
  · intro w' hS; obtain ⟨⟨a0, a1, a2⟩, b0, b1⟩ := hS; go_simp <;> with_reducible rfl
  simp only [Act.put, List.getElem_toArray, List.getElem_cons_succ, List.getElem_cons_zero, List.setIfInBounds_toArray, List.set_cons_succ, List.set_cons_zero]
  refine wpAnyH_take (i := 6) (v := ?_) rfl (by kernel_rfl) (by kernel_rfl) (by kernel_rfl) (fun _ _ _ h => h) (Or.inl ⟨rfl, ?_⟩) hHeld ?_
  rotate_left
  · intro w' hS; obtain ⟨⟨a0, a1, a2⟩, b0, b1⟩ := hS; go_simp <;> with_reducible rfl
  simp only [Act.put, List.getElem_toArray, List.getElem_cons_succ, List.getElem_cons_zero, List.setIfInBounds_toArray, List.set_cons_succ, List.set_cons_zero]
  refine wpAnyH_take (i := 7) (v := ?_) rfl (by kernel_rfl) (by kernel_rfl) (by kernel_rfl) (fun _ _ _ h => h) (Or.inl ⟨rfl, ?_⟩) hHeld ?_
  rotate_left
  · intro w' hS; obtain ⟨⟨a0, a1, a2⟩, b0, b1⟩ := hS; go_simp <;> with_reducible rfl
  simp only [Act.put, List.getElem_toArray, List.getElem_cons_succ, List.getElem_cons_zero, List.setIfInBounds_toArray, List.set_cons_succ, List.set_cons_zero]
  refine wpAnyH_take (i := 8) (v := ?_) rfl (by kernel_rfl) (by kernel_rfl) (by kernel_rfl) (fun _ _ _ h => h) (Or.inl ⟨rfl, ?_⟩) hHeld ?_
  rotate_left
  · intro w' hS; obtain ⟨⟨a0, a1, a2⟩, b0, b1⟩ := hS; go_simp <;> with_reducible rfl
  simp only [Act.put, List.getElem_toArray, List.getElem_cons_succ, List.getElem_cons_zero, List.setIfInBounds_toArray, List.set_cons_succ, List.set_cons_zero]
  refine wpAnyH_ready (rs := [9]) (by kernel_rfl) (by simp) (AllReadyH.cons rfl (fun K hK => ?_) AllReadyH.nil)
  go_simp
  refine (l1Rising_any E r y l _ _ (by exact hE.below ht) HL.out hr).mono ?_
  rintro e wx ⟨rfl, rfl⟩
  rw [HRI.out]
  refine hK.out _ _ ⟨box3_of hcr, box1_of hst⟩ (fun hHeld => ?_)
  clear hK K
  try simp only [Act.put, List.getElem_toArray, List.getElem_cons_succ, List.getElem_cons_zero, List.setIfInBounds_toArray, List.set_cons_succ, List.set_cons_zero]
  refine wpAnyH_take (i := 10) (v := ?_) rfl (by kernel_rfl) (by kernel_rfl) (by kernel_rfl) (fun _ _ _ h => h) (Or.inl ⟨rfl, ?_⟩) hHeld ?_
  rotate_left
  · intro w' hS; obtain ⟨⟨a0, a1, a2⟩, b0, b1⟩ := hS; go_simp <;> with_reducible rfl
  simp only [Act.put, List.getElem_toArray, List.getElem_cons_succ, List.getElem_cons_zero, List.setIfInBounds_toArray, List.set_cons_succ, List.set_cons_zero]
  refine wpAnyH_take (i := 11) (v := ?_) rfl (by kernel_rfl) (by kernel_rfl) (by kernel_rfl) (fun _ _ _ h => h) (Or.inl ⟨rfl, ?_⟩) hHeld ?_
  rotate_left
  · intro w' hS; obtain ⟨⟨a0, a1, a2⟩, b0, b1⟩ := hS; go_simp <;> with_reducible rfl
  simp only [Act.put, List.getElem_toArray, List.getElem_cons_succ, List.getElem_cons_zero, List.setIfInBounds_toArray, List.set_cons_succ, List.set_cons_zero]
  refine wpAnyH_take (i := 12) (v := ?_) rfl (by kernel_rfl) (by kernel_rfl) (by kernel_rfl) (fun _ _ _ h => h) (Or.inl ⟨rfl, ?_⟩) hHeld ?_
  rotate_left
  · intro w' hS; obtain ⟨⟨a0, a1, a2⟩, b0, b1⟩ := hS; go_simp <;> with_reducible rfl
  simp only [Act.put, List.getElem_toArray, List.getElem_cons_succ, List.getElem_cons_zero, List.setIfInBounds_toArray, List.set_cons_succ, List.set_cons_zero]
  refine wpAnyH_take (i := 13) (v := ?_) rfl (by kernel_rfl) (by kernel_rfl) (by kernel_rfl) (fun _ _ _ h => h) (Or.inl ⟨rfl, ?_⟩) hHeld ?_
  rotate_left
  · intro w' hS; obtain ⟨⟨a0, a1, a2⟩, b0, b1⟩ := hS; go_simp <;> with_reducible rfl
  simp only [Act.put, List.getElem_toArray, List.getElem_cons_succ, List.getElem_cons_zero, List.setIfInBounds_toArray, List.set_cons_succ, List.set_cons_zero]
  refine wpAnyH_take (i := 14) (v := ?_) rfl (by kernel_rfl) (by kernel_rfl) (by kernel_rfl) (fun _ _ _ h => h) (Or.inl ⟨rfl, ?_⟩) hHeld ?_
  rotate_left
  · intro w' hS; obtain ⟨⟨a0, a1, a2⟩, b0, b1⟩ := hS; go_simp <;> with_reducible rfl
  simp only [Act.put, List.getElem_toArray, List.getElem_cons_succ, List.getElem_cons_zero, List.setIfInBounds_toArray, List.set_cons_succ, List.set_cons_zero]
  refine wpAnyH_take (i := 16) (v := ?_) rfl (by kernel_rfl) (by kernel_rfl) (by kernel_rfl) (fun _ _ _ h => h) (Or.inl ⟨rfl, ?_⟩) hHeld ?_
  rotate_left
  · intro w' hS; obtain ⟨⟨a0, a1, a2⟩, b0, b1⟩ := hS; go_simp <;> with_reducible rfl
  simp only [Act.put, List.getElem_toArray, List.getElem_cons_succ, List.getElem_cons_zero, List.setIfInBounds_toArray, List.set_cons_succ, List.set_cons_zero]
  refine wpAnyH_take (i := 17) (v := ?_) rfl (by kernel_rfl) (by kernel_rfl) (by kernel_rfl) (fun _ _ _ h => h) (Or.inl ⟨rfl, ?_⟩) hHeld ?_
  rotate_left
  · intro w' hS; obtain ⟨⟨a0, a1, a2⟩, b0, b1⟩ := hS; go_simp <;> with_reducible rfl
  simp only [Act.put, List.getElem_toArray, List.getElem_cons_succ, List.getElem_cons_zero, List.setIfInBounds_toArray, List.set_cons_succ, List.set_cons_zero]
  refine wpAnyH_ready (rs := [15]) (by kernel_rfl) (by simp) (AllReadyH.cons rfl (fun K hK => ?_) AllReadyH.nil)
  go_simp
  refine (loLoad_any A n c B m d xs s E r y l _ (by exact hA.below ht) (by exact hE.below ht) HX.out HL.out hn7 hr HW.out HIN.out hr8).mono ?_
  rintro e wx ⟨rfl, hb⟩
  replace hcr := hcr.below hb
  replace hst := hst.below hb
  replace ht := below_then ht hb ht.size
  clear hb
  refine hK.out _ _ ⟨box3_of hcr, box1_of hst⟩ (fun hHeld => ?_)
  clear hK K
  try simp only [Act.put, List.getElem_toArray, List.getElem_cons_succ, List.getElem_cons_zero, List.setIfInBounds_toArray, List.set_cons_succ, List.set_cons_zero]
  refine wpAnyH_take (i := 18) (v := ?_) rfl (by kernel_rfl) (by kernel_rfl) (by kernel_rfl) (fun _ _ _ h => h) (Or.inl ⟨rfl, ?_⟩) hHeld ?_
  rotate_left
  · intro w' hS; obtain ⟨⟨a0, a1, a2⟩, b0, b1⟩ := hS; go_simp <;> with_reducible rfl
  simp only [Act.put, List.getElem_toArray, List.getElem_cons_succ, List.getElem_cons_zero, List.setIfInBounds_toArray, List.set_cons_succ, List.set_cons_zero]
  refine wpAnyH_take (i := 19) (v := ?_) rfl (by kernel_rfl) (by kernel_rfl) (by kernel_rfl) (fun _ _ _ h => h) (Or.inl ⟨rfl, ?_⟩) hHeld ?_
  rotate_left
  · intro w' hS; obtain ⟨⟨a0, a1, a2⟩, b0, b1⟩ := hS; go_simp <;> with_reducible rfl
  simp only [Act.put, List.getElem_toArray, List.getElem_cons_succ, List.getElem_cons_zero, List.setIfInBounds_toArray, List.set_cons_succ, List.set_cons_zero]
  refine wpAnyH_done (by kernel_rfl) ?_ _
  clear hHeld
  rw [← HWT.out]
  obtain ⟨c0, c1, c2⟩ := hcr.cells3
  obtain ⟨d0, d1, -, -⟩ := hst.two
  have hE2 := hE.below ht
  have hD2 := hD.below ht
  have hB2 := hB.below ht
  clear hcr hst
  obtain ⟨w1, hw1⟩ : ∃ W, W = wx := ⟨_, rfl⟩
  rw [← hw1] at ht hE2 hD2 hB2 c0 c1 c2 d0 d1 ⊢
  clear hw1
  go_wp2
  go_loopw [7, 32] (fun v i wr => ∃ k x : Nat, k ≤ r ∧ i = .int .i64 k ∧ v = .bool (canRow bs (l.take k)) ∧ wr = w1.drewN x ∧ AtTo sb t l k) (fun _ i _ => r - (intOf i).toNat)
  case atStart => exact ⟨0, 0, Nat.zero_le _, rfl, rfl, rfl, fun _ _ h => absurd h (by omega)⟩
  case round =>
    obtain ⟨k, x, hk, rfl, rfl, rfl, hat⟩ := hrel
    by_cases hlt : k < r
    · have hkl : k < l.length := by have := HL.out; omega
      obtain ⟨b, o, rfl, hbl, hc⟩ := hE2.look (k := k) (by simpa [nums] using hkl)
      simp only [nums, List.getElem_map] at hc
      obtain ⟨hlo, hup⟩ := HIN.out _ (List.getElem_mem hkl)
      have hix : (l[k]).toNat < sb.length := by have := HSL.out; have := HX.out; omega
      obtain ⟨b', o', rfl, hbl', hc'⟩ := hD2.look (k := (l[k]).toNat) (by simpa [bits] using hix)
      have hiy : (l[k]).toNat < bs.length := by have := HR.out; have := HX.out; have := HY.out; omega
      obtain ⟨b'', o'', rfl, hbl'', hc''⟩ := hB2.look (k := (l[k]).toNat) (by simpa [bits] using hiy)
      simp only [bits, List.getElem_map] at hc' hc''
      have hupq : l[k] < q := by have := HQ.out; omega
      have hupm : l[k] < m := by have := HY.out; omega
      have hgd : sb.getD (l[k]).toNat false = sb[(l[k]).toNat] := by simp [hix]
      have hge : bs.getD (l[k]).toNat false = bs[(l[k]).toNat] := by simp [hiy]
      have hcn := canRow_next (bs := bs) hkl
      rw [hge] at hcn
      by_cases he : sb[(l[k]).toNat] = t
      · have hne : (!(sb[(l[k]).toNat] == t)) = false := by simp [he]
        have HE := Lib.hid (hgd.trans he)
        have HCN := Lib.hid hcn
        clear he hgd hge hcn
        cases hrw : canRow bs (l.take k)
        all_goals
          have HRW := Lib.hid hrw
          clear hrw
          go_wp2
          go_quiet (fail)
          go_wp2
          go_roundw
          case rel => exact ⟨k + 1, x + _, by omega, by go_num, by rw [HCN.out, HRW.out]; rfl, rfl, fun j h hj => (Nat.lt_succ_iff_lt_or_eq.1 hj).elim (hat j h) (fun e => by subst e; exact HE.out)⟩
          case measure => simp [intOf]; omega
      · have hne : (!(sb[(l[k]).toNat] == t)) = true := by simp [he]
        have HN := Lib.hid (ride_at (xs := xs) (bs := bs) (s := s) (allAt_no (bs := sb) (t := t) hkl (by rw [hgd]; exact he)))
        clear he hgd hge hcn
        go_wp2
        go_quiet (fail)
        go_wp2
        go_ret
        exact ⟨ret_of (by rw [HN.out]; rfl), below_draws (below_draws ht _) _⟩
    · have HN := Lib.hid (ride_yes (bs := bs) H0.out HRX.out HLE.out (allAt_yes (bs := sb) (t := t) (l := l) (fun j hj => hat j hj (by have := HL.out; omega))))
      have hkr : k = l.length := by have := HL.out; omega
      subst hkr
      rw [List.take_length]
      go_wp2
      go_ret
      exact ⟨ret_of (by rw [HN.out]; rfl), below_draws ht _⟩
end Go.Proofs.Ytoedcieofjcgkaa

namespace Go.Proofs.Ytoedcieofjcgkaa
open Go.RowKit

/-- What is left of l behind two lists, or -1. -/
def crewLeft (l : Int) (n m : Nat) : Int := if l - n - m < 0 then -1 else l - n - m
theorem crewLeft_bad {l : Int} {n m : Nat} (h : l - n - m < 0) : crewLeft l n m = -1 := if_pos h
theorem crewLeft_ok {l : Int} {n m : Nat} (h : ¬ l - n - m < 0) : crewLeft l n m = l - n - m := if_neg h

set_option maxHeartbeats 400000 in
theorem szCrew_any (A : Option Addr) (n c : Nat) (B : Option Addr) (m d : Nat) (s l : Int) (w : World) (hn : n ≤ 9223372036854775807) (hm : m ≤ 9223372036854775807) (h0 : 0 ≤ l) (h1 : l ≤ 1048576) :
    Calls Try.prog 21 #[.agg #[.slice A n c, .slice B m d, .int .i64 s], .int .i64 l] w fun e w' => e = .returned (.int .i64 (crewLeft l n m)) ∧ Below w.heap.size w w' := by
  by_cases h : l < n
  · go_enter Try.func21, Try.ntmps21
    go_wp2_with fail
    refine (szIntS_any A n c l _ hn h0 h1).mono ?_
    rintro e w' ⟨rfl, rfl⟩
    rw [if_pos (by assumption)]
    go_wp2
    go_ret
    exact ⟨ret_of (by rw [crewLeft_bad (by omega)]; rfl), (Below.refl _ _).alloc (Nat.le_refl _) _⟩
  · have h0' : 0 ≤ l - n := by omega
    have h1' : ¬ l - n < 0 := by omega
    by_cases h2 : l - n < m
    all_goals
      go_enter Try.func21, Try.ntmps21
      go_wp2_with fail
      refine (szIntS_any A n c l _ hn h0 h1).mono ?_
      rintro e w' ⟨rfl, rfl⟩
      rw [if_neg (by omega)]
      go_wp2_with fail
      refine (szBoolS_any B m d (l - n) _ hm h0' (by omega)).mono ?_
      rintro e w' ⟨rfl, rfl⟩
      first | rw [if_pos (by assumption)] | rw [if_neg (by omega)]
      go_wp2
      go_ret
      exact ⟨ret_of (by first | (rw [crewLeft_bad (by omega)]; rfl) | (rw [crewLeft_ok (by omega)]; rfl)), (Below.refl _ _).alloc (Nat.le_refl _) _⟩

/-- What toCrew hands back. -/
def CrewTo (xs : List Int) (bs : List Bool) (n m : Nat) (s : Int) (w : World) (e : Ending) (w' : World) : Prop :=
  ∃ g h : Nat, e = .returned (.agg #[.slice (some ⟨g, 0, none⟩) n n, .slice (some ⟨h, 0, none⟩) m m, .int .i64 s]) ∧ w.heap.size ≤ g ∧ Whole w' g 3 (nums xs).toArray ∧ g < h ∧ Whole w' h 4 (bits bs).toArray ∧ Below w.heap.size w w'

set_option maxHeartbeats 1600000 in
theorem toCrew_own (A : Option Addr) (n c : Nat) (xs : List Int) (B : Option Addr) (m d : Nat) (bs : List Bool) (s : Int) (w : World) (hA : Holds w A (nums xs)) (hB : Holds w B (bits bs)) (hx : xs.length = n) (hy : bs.length = m) (hn : n ≤ 1048576) (hm : m ≤ 1048576) :
    Calls Try.prog 23 #[.agg #[.slice A n c, .slice B m d, .int .i64 s]] w (CrewTo xs bs n m s w) := by
  have HX := Lib.hid hx
  have HY := Lib.hid hy
  clear hx hy
  go_enter Try.func23, Try.ntmps23
  go_wp2_with fail
  refine (toIntS_any A n c xs _ (((hA.alloc _).alloc _).alloc _) HX.out hn).mono ?_
  rintro e w1 ⟨rfl, hw, hb, hs⟩
  have hy0 := ((Whole.fresh (w.alloc (.cells #[.slice A n c, .slice B m d, .int .i64 s] 36)) 39 #[.slice none 0 0, .slice none 0 0, .int .i64 0]).alloc (.cells #[.slice none 0 0, .slice none 0 0, .int .i64 0] 39)).below hb
  have hz0 := (Whole.fresh ((w.alloc (.cells #[.slice A n c, .slice B m d, .int .i64 s] 36)).alloc (.cells #[.slice none 0 0, .slice none 0 0, .int .i64 0] 39)) 39 #[.slice none 0 0, .slice none 0 0, .int .i64 0]).below hb
  have ha0 := (((Whole.fresh w 36 #[.slice A n c, .slice B m d, .int .i64 s]).alloc (.cells #[.slice none 0 0, .slice none 0 0, .int .i64 0] 39)).alloc (.cells #[.slice none 0 0, .slice none 0 0, .int .i64 0] 39)).below hb
  simp only [World.size_alloc] at hy0 hz0
  obtain ⟨ac0, ac1, ac2⟩ := ha0.cells3
  obtain ⟨yc0, yc1, yc2⟩ := hy0.cells3
  obtain ⟨zc0, zc1, zc2⟩ := hz0.cells3
  have zf0 := hz0.open_ 0
  have HS := Lib.hid hs
  have hz : w1.heap.size = w.heap.size + 4 := by have := HS.out; simp at this; omega
  clear hs
  have hw' : Whole w1 (w.heap.size + 1 + 1 + 1) 3 (nums xs).toArray := by simpa using hw
  have hb' : Below w.heap.size w w1 := below_then (below3 w _ _ _) hb (by simp; omega)
  clear hw
  have HZ := Lib.hid hz
  clear hz
  go_wp2_with fail
  have hz := HZ.out
  have hb2 : Below w.heap.size w (w1.setCell ⟨w.heap.size + 1 + 1, 0, none⟩ (.slice (some ⟨w.heap.size + 1 + 1 + 1, 0, none⟩) n n)) := below_set hb' (by omega)
  refine (toBoolS_any B m d bs _ (by exact hB.below hb2) HY.out hm).mono ?_
  rintro e w2 ⟨rfl, hv, hb3, hs2⟩
  have hy1 := (hy0.off (by omega)).below hb3
  have hz1 := (hz0.set_ 0 (.slice (some ⟨w.heap.size + 1 + 1 + 1, 0, none⟩) n n)).below hb3
  obtain ⟨yd0, yd1, yd2⟩ := hy1.cells3
  obtain ⟨zd0, zd1, zd2⟩ := (show Whole w2 (w.heap.size + 1 + 1) 39 #[.slice (some ⟨w.heap.size + 1 + 1 + 1, 0, none⟩) n n, .slice none 0 0, .int .i64 0] by simpa using hz1).cells3
  have ha1 := (ha0.off (b := w.heap.size + 1 + 1) (o := 0) (u := .slice (some ⟨w.heap.size + 1 + 1 + 1, 0, none⟩) n n) (by omega)).below hb3
  clear yc0 yc1 yc2 zc0 zc1 zc2 zf0 ac0 ac1 ac2
  obtain ⟨ad0, ad1, ad2⟩ := ha1.cells3
  have zf1 := hz1.open_ 1
  have zf2 := hz1.open_ 2
  have yf0 := hy1.open_ 0
  have yf1 := hy1.open_ 1
  have yf2 := hy1.open_ 2
  have hs1 : (w1.setCell ⟨w.heap.size + 1 + 1, 0, none⟩ (.slice (some ⟨w.heap.size + 1 + 1 + 1, 0, none⟩) n n)).heap.size = w1.heap.size := by simp [World.setCell]
  rw [hs1, hz] at hs2 hv
  have hw2 : Whole w2 (w.heap.size + 1 + 1 + 1) 3 (nums xs).toArray := (hw'.off (by omega)).below hb3
  have hb4 : Below w.heap.size w w2 := below_then hb2 hb3 hb2.size
  have HV := Lib.hid hv
  have HS2 := Lib.hid hs2
  clear hv hs2 hb3
  go_wp2
  have hv := HV.out
  refine bodyPost_ret (v := .agg #[.slice (some ⟨w.heap.size + 1 + 1 + 1, 0, none⟩) n n, .slice (some ⟨w.heap.size + 4, 0, none⟩) m m, .int .i64 s]) (by simp [results, Try.results23, go_sem, yd0, yd1, yd2, zd0, zd1, zd2]) rfl ⟨_, _, rfl, by omega, ?_, by omega, ?_, ?_⟩
  · exact ((((hw2.off (by omega)).off (by omega)).off (by omega)).off (by omega)).off (by omega)
  · exact ((((hv.off (by omega)).off (by omega)).off (by omega)).off (by omega)).off (by omega)
  · exact below_set (below_set (below_set (below_set (below_set hb4 (by omega)) (by omega)) (by omega)) (by omega)) (by omega)

/-- Two crews of one reading are the same. -/
theorem eqCrew_yes (A B : Option Addr) (n c d : Nat) (xs : List Int) (A' B' : Option Addr) (m c' d' : Nat) (bs : List Bool) (s : Int) (w : World) (hA : Holds w A (nums xs)) (hB : Holds w B (nums xs)) (hA' : Holds w A' (bits bs)) (hB' : Holds w B' (bits bs)) (hx : xs.length = n) (hy : bs.length = m) (hn : n ≤ 9223372036854775807) (hm : m ≤ 9223372036854775807) :
    Calls Try.prog 25 #[.agg #[.slice A n c, .slice A' m c', .int .i64 s], .agg #[.slice B n d, .slice B' m d', .int .i64 s]] w fun e w' => e = .returned (.bool true) ∧ Below w.heap.size w w' := by
  have HX := Lib.hid hx
  have HY := Lib.hid hy
  have HI := Lib.hid (sameInts_yes (a := xs) (b := xs) rfl)
  have HB := Lib.hid (sameBits_yes (a := bs) (b := bs) rfl)
  clear hx hy
  have hss : (!(s == s)) = false := by simp
  have hb2 := below2 w (.cells #[.slice A n c, .slice A' m c', .int .i64 s] 39) (.cells #[.slice B n d, .slice B' m d', .int .i64 s] 39)
  go_enter Try.func25, Try.ntmps25
  go_wp2_with fail
  refine (eqIntS_any A B n n c d xs xs _ (by exact hA.below hb2) (by exact hB.below hb2) HX.out HX.out hn hn).mono ?_
  rintro e w1 ⟨rfl, k, rfl⟩
  rw [HI.out]
  go_wp2_with fail
  refine (eqBoolS_any A' B' m m c' d' bs bs _ (by exact hA'.below (below_draws hb2 k)) (by exact hB'.below (below_draws hb2 k)) HY.out HY.out hm hm).mono ?_
  rintro e w2 ⟨rfl, k2, rfl⟩
  rw [HB.out]
  go_wp2
  go_ret
  exact ⟨rfl, below_draws hb2 (k + k2)⟩

set_option maxHeartbeats 800000 in
theorem markCrew_any (A : Option Addr) (n c lo mid hi : Nat) (xs : List Value) (B : Option Addr) (m d : Nat) (bs : List Value) (s q : Int) (w : World) (hf : Fresh w lo mid 3 A xs) (hg : Fresh w mid hi 4 B bs) (hx : xs.length = n) (hy : bs.length = m) (h0 : 0 ≤ q) (h1 : q ≤ 2305843009213693952) (hn : n ≤ 1048576) (hm : m ≤ 1048576) (hlo : lo ≤ mid) (hhi : mid ≤ hi) (hz : hi ≤ w.heap.size) :
    Calls Try.prog 31 #[.agg #[.slice A n c, .slice B m d, .int .i64 s], .int .i64 q] w fun e w' => e = .returned (.int .i64 (q + n + m)) ∧ Span lo hi w w' ∧ (Fresh w' lo mid 3 A (nums (marksI q n)) ∧ Fresh w' mid hi 4 B (bits (marksB (q + n) m))) := by
  have HX := Lib.hid hx
  have HY := Lib.hid hy
  clear hx hy
  have hb1 := Whole.fresh w 39 #[.slice A n c, .slice B m d, .int .i64 s]
  go_enter Try.func31, Try.ntmps31
  go_wp2_with fail
  refine (markIntS_any A n c lo mid xs q _ (hf.alloc _) HX.out h0 (by omega) hn).mono ?_
  rintro e w1 ⟨rfl, hs, hf1⟩
  have hq1 : (0 : Int) ≤ q + n := by omega
  have hbl := (below1 w (.cells #[.slice A n c, .slice B m d, .int .i64 s] 39))
  have hs0 : Span lo hi w w1 := (Span.of_below hbl lo hi).trans ⟨hs.os, hs.tape, hs.output, hs.size, fun k hk h => hs.block k hk (by omega)⟩
  have hb2 := hs.whole hb1 (by omega)
  obtain ⟨c0, c1, c2⟩ := hb2.cells3
  have hg1 := hs.fresh (hg.alloc (.cells #[.slice A n c, .slice B m d, .int .i64 s] 39)) (by omega)
  go_wp2_with fail
  refine (markBoolS_any B m d mid hi bs (q + n) _ hg1 HY.out hq1 (by omega) hm).mono ?_
  rintro e w2 ⟨rfl, hs2, hf2⟩
  have hs3 : Span lo hi w w2 := hs0.trans ⟨hs2.os, hs2.tape, hs2.output, hs2.size, fun k hk h => hs2.block k hk (by omega)⟩
  have hf3 := hs2.fresh hf1 (by omega)
  have hq2 : (0 : Int) ≤ q + n + m := by omega
  go_wp2
  go_ret
  exact ⟨rfl, hs3, hf3, hf2⟩

/-- A row lies in one block, or nowhere. -/
theorem Fresh.tight {w : World} {lo hi : Nat} {ty : TypeId} {A : Option Addr} {xs : List Value} (hf : Fresh w lo hi ty A xs) (hh : lo ≤ hi) : ∃ l r, Fresh w l r ty A xs ∧ lo ≤ l ∧ r ≤ hi ∧ ((l = lo ∧ r = lo) ∨ (r = l + 1 ∧ ∃ cs, Whole w l ty cs)) := by
  rcases hf with rfl | ⟨g, cs, hA, h1, h2, hw, h3, h4⟩
  · exact ⟨lo, lo, .inl rfl, Nat.le_refl _, hh, .inl ⟨rfl, rfl⟩⟩
  · exact ⟨g, g + 1, .inr ⟨g, cs, hA, Nat.le_refl _, Nat.lt_succ_self _, hw, h3, h4⟩, h1, h2, .inr ⟨rfl, cs, hw⟩⟩
theorem whole_other {w : World} {g h : Nat} {t u : TypeId} {a b : Array Value} (h1 : Whole w g t a) (h2 : Whole w h u b) (hn : t ≠ u) : g ≠ h := by
  rintro rfl
  have e : some (Obj.cells a t (0, 0)) = some (Obj.cells b u (0, 0)) := h1.symm.trans h2
  simp at e
  exact hn e.2

set_option maxHeartbeats 800000 in
theorem markCrew_apart (A : Option Addr) (n c lo hi : Nat) (xs : List Value) (B : Option Addr) (m d : Nat) (bs : List Value) (s q : Int) (w : World) (hf : Fresh w lo hi 3 A xs) (hg : Fresh w lo hi 4 B bs) (hx : xs.length = n) (hy : bs.length = m) (h0 : 0 ≤ q) (h1 : q ≤ 2305843009213693952) (hn : n ≤ 1048576) (hm : m ≤ 1048576) (hh : lo ≤ hi) (hz : hi ≤ w.heap.size) :
    Calls Try.prog 31 #[.agg #[.slice A n c, .slice B m d, .int .i64 s], .int .i64 q] w fun e w' => e = .returned (.int .i64 (q + n + m)) ∧ Span lo hi w w' ∧ Fresh w' lo hi 3 A (nums (marksI q n)) ∧ Fresh w' lo hi 4 B (bits (marksB (q + n) m)) := by
  have HX := Lib.hid hx
  have HY := Lib.hid hy
  clear hx hy
  obtain ⟨l1, r1, hf1, ha1, hb1, hc1⟩ := hf.tight hh
  obtain ⟨l2, r2, hg1, ha2, hb2, hc2⟩ := hg.tight hh
  have hd : r1 ≤ l2 ∨ r2 ≤ l1 := by
    rcases hc1 with ⟨e1, e2⟩ | ⟨e1, cs1, hw1⟩
    · exact .inl (by omega)
    · rcases hc2 with ⟨e3, e4⟩ | ⟨e3, cs2, hw2⟩
      · exact .inr (by omega)
      · have := whole_other hw1 hw2 (by decide)
        omega
  have hbx := Whole.fresh w 39 #[.slice A n c, .slice B m d, .int .i64 s]
  clear hf hg hc1 hc2
  go_enter Try.func31, Try.ntmps31
  go_wp2_with fail
  refine (markIntS_any A n c l1 r1 xs q _ (hf1.alloc _) HX.out h0 (by omega) hn).mono ?_
  rintro e w1 ⟨rfl, hs, hf2⟩
  have hq1 : (0 : Int) ≤ q + n := by omega
  have hbl := (below1 w (.cells #[.slice A n c, .slice B m d, .int .i64 s] 39))
  have hs0 : Span lo hi w w1 := (Span.of_below hbl lo hi).trans ⟨hs.os, hs.tape, hs.output, hs.size, fun k hk h => hs.block k hk (by omega)⟩
  obtain ⟨c0, c1, c2⟩ := (hs.whole hbx (by omega)).cells3
  have hg2 := hs.fresh (hg1.alloc (.cells #[.slice A n c, .slice B m d, .int .i64 s] 39)) (by omega)
  go_wp2_with fail
  refine (markBoolS_any B m d l2 r2 bs (q + n) _ hg2 HY.out hq1 (by omega) hm).mono ?_
  rintro e w2 ⟨rfl, hs2, hg3⟩
  have hs3 : Span lo hi w w2 := hs0.trans ⟨hs2.os, hs2.tape, hs2.output, hs2.size, fun k hk h => hs2.block k hk (by omega)⟩
  have hf3 := hs2.fresh hf2 (by omega)
  have hq2 : (0 : Int) ≤ q + n + m := by omega
  go_wp2
  go_ret
  exact ⟨rfl, hs3, hf3.more ha1 hb1, hg3.more ha2 hb2⟩

set_option maxHeartbeats 800000 in
theorem heldCrew_any (A : Option Addr) (n c : Nat) (B : Option Addr) (m d : Nat) (s q : Int) (w : World) (hA : Holds w A (nums (marksI q n))) (hB : Holds w B (bits (marksB (q + n) m))) (h0 : 0 ≤ q) (h1 : q ≤ 2305843009213693952) (hn : n ≤ 1048576) (hm : m ≤ 1048576) :
    Calls Try.prog 58 #[.agg #[.slice A n c, .slice B m d, .int .i64 s], .int .i64 q] w fun e w' => e = .returned (.int .i64 (q + n + m)) ∧ Below w.heap.size w w' := by
  have hq0 : (0 : Int) ≤ q + n := by omega
  have hq1 : (0 : Int) ≤ q + n + m := by omega
  have hq2 : ¬ (q + (n : Int) < 0) := by omega
  have hq3 : ¬ (q + (n : Int) + (m : Int) < 0) := by omega
  go_enter Try.func58, Try.ntmps58
  go_wp2_with fail
  refine (heldIntS_any A n c q _ (hA.alloc _) h0 (by omega) hn).mono ?_
  rintro e w1 ⟨rfl, rfl⟩
  go_wp2_with fail
  refine (heldBoolS_any B m d (q + n) _ (hB.alloc _) hq0 (by omega) hm).mono ?_
  rintro e w1 ⟨rfl, rfl⟩
  go_wp2
  go_ret
  exact ⟨rfl, below1 w _⟩
end Go.Proofs.Ytoedcieofjcgkaa

namespace Go.Proofs.Ytoedcieofjcgkaa
open Go.RowKit

theorem own_place {w : World} {base g : Nat} {e : TypeId} {size : Nat} {v : Value} {n : Nat} {xs : List Value} {v0 v1 v2 v3 v4 v5 v6 v7 v8 : Value} (h : w.ownsRow base e size v n xs) (hg : g < base) :
    World.ownsRow (((((((((w.setCell ⟨g, 0, none⟩ v0).setCell ⟨g, 1, none⟩ v1).setCell ⟨g, 2, none⟩ v2).setCell ⟨g, 3, none⟩ v3).setCell ⟨g, 4, none⟩ v4).setCell ⟨g, 5, none⟩ v5).setCell ⟨g, 6, none⟩ v6).setCell ⟨g, 7, none⟩ v7).setCell ⟨g, 8, none⟩ v8) base e size v n xs :=
  ownsRow_setCell_below (ownsRow_setCell_below (ownsRow_setCell_below (ownsRow_setCell_below (ownsRow_setCell_below (ownsRow_setCell_below (ownsRow_setCell_below (ownsRow_setCell_below (ownsRow_setCell_below h hg _) hg _) hg _) hg _) hg _) hg _) hg _) hg _) hg _

/-- What walk hands back. -/
def WalkPost (n : Nat) (s : Int) (bs : List Bool) (t : Bool) (ls : List (List Int)) (w : World) (e : Ending) (w' : World) : Prop :=
  ∃ (T : Option Addr) (c : Nat), e = .returned (.tuple #[.slice T (made n s bs t ls) c, .agg (placeCells (ended n s bs t ls).1 (ended n s bs t ls).2)]) ∧ w'.ownsRow (w.heap.size + 1 + 1 + 1) 77 8 (.slice T (made n s bs t ls) c) (made n s bs t ls) (crowdsOf (ls.take (made n s bs t ls))) ∧ Below w.heap.size w w'

end Go.Proofs.Ytoedcieofjcgkaa

namespace Go.Proofs.Ytoedcieofjcgkaa
open Go.RowKit

def asked (xs : List Int) (n : Nat) (s : Int) (bs : List Bool) (t : Bool) : Bool := isParty xs s && isState n bs t
noncomputable def failOk (xs : List Int) (n : Nat) (s : Int) (bs : List Bool) (t : Bool) (ls : List (List Int)) : Bool := asked xs n s bs t && (decide (ls.length ≤ 40) && decide (made n s bs t ls ≠ ls.length))
noncomputable def failAt (xs : List Int) (n : Nat) (s : Int) (bs : List Bool) (t : Bool) (ls : List (List Int)) : Int := if failOk xs n s bs t ls then made n s bs t ls else 0
theorem fail_no {xs : List Int} {n : Nat} {s : Int} {bs : List Bool} {t : Bool} {ls : List (List Int)} (h : asked xs n s bs t = false ∨ 40 < ls.length ∨ made n s bs t ls = ls.length) : failOk xs n s bs t ls = false ∧ failAt xs n s bs t ls = 0 := by
  have h0 : failOk xs n s bs t ls = false := by
    rcases h with h | h | h
    · simp [failOk, h]
    · simp [failOk]; omega
    · simp [failOk, h]
  exact ⟨h0, by simp [failAt, h0]⟩
theorem fail_yes {xs : List Int} {n : Nat} {s : Int} {bs : List Bool} {t : Bool} {ls : List (List Int)} (h : asked xs n s bs t = true) (h40 : ls.length ≤ 40) (hm : made n s bs t ls ≠ ls.length) : failOk xs n s bs t ls = true ∧ failAt xs n s bs t ls = made n s bs t ls := by
  have h0 : failOk xs n s bs t ls = true := by simp [failOk, h, h40, hm]
  exact ⟨h0, by simp [failAt, h0]⟩
theorem asked_len {xs : List Int} {n : Nat} {s : Int} {bs : List Bool} {t : Bool} (h : asked xs n s bs t = true) (hx : xs.length = n) : n ≤ 8 ∧ 0 < n ∧ bs.length = n := by
  simp only [asked, Bool.and_eq_true, isState, decide_eq_true_eq] at h
  have h1 := isParty_le h.1
  refine ⟨by omega, ?_, h.2.1⟩
  have h2 := h.1
  simp only [isParty, Bool.and_eq_true] at h2
  have := (within_iff.1 h2.1).1
  omega

/-- What TripThatFails hands back. -/
def FailPost (v : Int) (ok : Bool) (w : World) (e : Ending) (w' : World) : Prop := e = .returned (.tuple #[.int .i64 v, .bool ok]) ∧ Below w.heap.size w w'

end Go.Proofs.Ytoedcieofjcgkaa

namespace Go.Proofs.Ytoedcieofjcgkaa
open Go.RowKit

/-- What IsCalmPlan hands back. -/
def TwoTold (a b : Bool) (w : World) (e : Ending) (w' : World) : Prop := e = .returned (.tuple #[.bool a, .bool b]) ∧ Below w.heap.size w w'
def cpOk (a b : Int) (ls : List (List Int)) : Bool := isCo a b && decide (ls.length ≤ 40)
noncomputable def isCP (a b : Int) (ls : List (List Int)) : Bool := cpOk a b ls && planM a.toNat b (2 * 2 ^ (2 * a.toNat) - 1) 0 ls
theorem cp_no {a b : Int} {ls : List (List Int)} (h : isCo a b = false ∨ 40 < ls.length) : cpOk a b ls = false ∧ isCP a b ls = false := by
  have h0 : cpOk a b ls = false := by
    rcases h with h | h
    · simp [cpOk, h]
    · simp [cpOk]; omega
  exact ⟨h0, by simp [isCP, h0]⟩
theorem cp_yes {k : Nat} {b : Int} {ls : List (List Int)} (h : isCo k b = true) (h40 : ls.length ≤ 40) : cpOk k b ls = true ∧ isCP k b ls = planM k b (2 * 2 ^ (2 * k) - 1) 0 ls := by
  have h0 : cpOk k b ls = true := by simp [cpOk, h, h40]
  exact ⟨h0, by simp [isCP, h0]⟩

set_option maxHeartbeats 800000 in
set_option maxRecDepth 100000 in
theorem specIsCalmPlan_any (D : Option Addr) (n z : Nat) (a b : Int) (rs : List RowV) (w : World) (hD : Grid w D rs) (hz : rs.length = n) (hn : n ≤ 9223372036854775807) :
    Calls Try.prog 16 #[.agg #[.int .i64 a, .int .i64 b], .slice D n z] w (TwoTold (isCP a b (rowNums rs)) (cpOk a b (rowNums rs)) w) := by
  have HZ := Lib.hid hz
  have HLS := Lib.hid (rowNums_len rs)
  have hD2 := hD.alloc (.cells #[.int .i64 a, .int .i64 b] 28)
  have h0 := Whole.fresh w 28 #[.int .i64 a, .int .i64 b]
  have hbw := below1 w (.cells #[.int .i64 a, .int .i64 b] 28)
  clear hz
  cases hp : isCo a b
  · have HP := Lib.hid hp
    have HF := Lib.hid (cp_no (ls := rowNums rs) (.inl hp))
    clear hp
    go_enter Try.func16, Try.ntmps16
    go_wp2_with fail
    refine (cuGood_any a b _).mono ?_
    rintro e w1 ⟨rfl, hb⟩
    rw [HP.out]
    have ht := below_then hbw hb (by simp)
    clear hb
    go_wp2
    go_ret2
    exact ⟨by rw [HF.out.1, HF.out.2]; rfl, ht⟩
  · have HP := Lib.hid hp
    obtain ⟨⟨ha1, ha4⟩, hb1, hb4⟩ := isCo_iff.1 hp
    obtain ⟨k, rfl⟩ : ∃ k : Nat, a = k := ⟨a.toNat, by omega⟩
    have hk : k ≤ 4 := by omega
    by_cases h40 : 40 < n
    · have hd : decide ((n : Int) > 40) = true := by simp; omega
      have HF := Lib.hid (cp_no (a := k) (b := b) (ls := rowNums rs) (.inr (by have := HLS.out; have := HZ.out; omega)))
      clear hp
      go_enter Try.func16, Try.ntmps16
      go_wp2_with fail
      refine (cuGood_any k b _).mono ?_
      rintro e w1 ⟨rfl, hb⟩
      rw [HP.out]
      have ht := below_then hbw hb (by simp)
      clear hb
      go_wp2
      go_ret2
      exact ⟨by rw [HF.out.1, HF.out.2]; rfl, ht⟩
    · have hd : decide ((n : Int) > 40) = false := by simp; omega
      have HF := Lib.hid (cp_yes (ls := rowNums rs) hp (by have := HLS.out; have := HZ.out; omega))
      clear hp
      go_enter Try.func16, Try.ntmps16
      go_wp2_with fail
      refine (cuGood_any k b _).mono ?_
      rintro e w1 ⟨rfl, hb⟩
      rw [HP.out]
      have ht := below_then hbw hb (by simp)
      have hD3 := hD2.below hb
      obtain ⟨c0, c1, -, -⟩ := (h0.below hb).two
      clear hb
      go_wp2_with fail
      refine (cuPlan_any k b D n z rs _ hk hD3 HZ.out hn).mono ?_
      rintro e w2 ⟨rfl, hb⟩
      replace ht := below_then ht hb ht.size
      clear hb c0 c1
      go_wp2
      go_ret2
      exact ⟨by rw [HF.out.1, HF.out.2]; rfl, ht⟩
end Go.Proofs.Ytoedcieofjcgkaa

namespace Go.Proofs.Ytoedcieofjcgkaa
open Go.RowKit

/-- Do lists, from a place on, lead over by rides? -/
def playW (p : Nat) (L : List (List Int)) : List Bool → Bool → List (List Int) → Bool
  | bs, t, [] => sameBits bs (trues p) && t
  | bs, t, l :: ls => decide (l ∈ ridesAt bs t L) && playW p L (flipped bs l) (!t) ls
theorem playW_stop {p : Nat} {L : List (List Int)} {bs : List Bool} {t : Bool} {ls : List (List Int)} {j : Nat} (hj : j < ls.length) (h : ls[j] ∉ ridesAt bs t L) : playW p L bs t (ls.drop j) = false := by
  rw [List.drop_eq_getElem_cons hj, playW, decide_eq_false h]; rfl
theorem playW_next {p : Nat} {L : List (List Int)} {bs : List Bool} {t : Bool} {ls : List (List Int)} {j : Nat} (hj : j < ls.length) (h : ls[j] ∈ ridesAt bs t L) : playW p L bs t (ls.drop j) = playW p L (flipped bs ls[j]) (!t) (ls.drop (j + 1)) := by
  rw [List.drop_eq_getElem_cons hj, playW, decide_eq_true h]; rfl

set_option maxHeartbeats 12800000 in
set_option maxRecDepth 100000 in
theorem leadsCrew_any (T : List Int → Int) (p gL g : Nat) (A : Option Addr) (c : Nat) (L : List (List Int)) (D : Option Addr) (n z : Nat) (rs : List RowV) (w : World) (hp8 : p ≤ 8) (hLl : L.length ≤ 255) (hup : ∀ l ∈ L, l ∈ upLists p p) (hF : RidesFn w T gL g A c L) (hD : Grid w D rs) (hz : rs.length = n) (hn : n ≤ 9223372036854775807) (h40 : n ≤ 1048576) :
    Calls Try.prog 63 #[.agg (crewCells p gL), .slice D n z] w fun e w' => e = .returned (.bool (playW p L (falses (p)) false (rowNums rs))) ∧ Below w.heap.size w w' := by
  have HZ := Lib.hid hz
  have HLS := Lib.hid (rowNums_len rs)
  obtain ⟨Q, hP⟩ : ∃ Q : Bool, Q = playW p L (falses (p)) false (rowNums rs) := ⟨_, rfl⟩
  have HPP := Lib.hid hP
  rw [← hP]
  clear hz hP
  have HRF := Lib.hid hF
  have HR0 := Lib.hid (Whole.fresh w 82 (crewCells p gL))
  have HB0 := Lib.hid (below1 w (.cells (crewCells p gL) 82))
  have hw0 := HR0.out.lt
  go_enter Try.func63, Try.ntmps63
  go_upto_region 1 with fail
  generalize World.alloc w (.cells (crewCells p gL) 82) = W0 at HR0 HB0 hw0 ⊢
  have e0 : W0.cell? ⟨w.heap.size, 0, none⟩ = some (.bool false) := HR0.out.cell 0
  have e1 : W0.cell? ⟨w.heap.size, 1, none⟩ = some (.bool false) := HR0.out.cell 1
  have e2 : W0.cell? ⟨w.heap.size, 2, none⟩ = some (.bool false) := HR0.out.cell 2
  have e3 : W0.cell? ⟨w.heap.size, 3, none⟩ = some (.bool false) := HR0.out.cell 3
  have e4 : W0.cell? ⟨w.heap.size, 4, none⟩ = some (.bool false) := HR0.out.cell 4
  have e5 : W0.cell? ⟨w.heap.size, 5, none⟩ = some (.bool false) := HR0.out.cell 5
  have e6 : W0.cell? ⟨w.heap.size, 6, none⟩ = some (.bool false) := HR0.out.cell 6
  have e7 : W0.cell? ⟨w.heap.size, 7, none⟩ = some (.bool false) := HR0.out.cell 7
  have e8 : W0.cell? ⟨w.heap.size, 8, none⟩ = some (.bool false) := HR0.out.cell 8
  go_upto_region 2 with (refine wpList_store_whole rfl 79 (.tmp 5) (.tmp 11) rfl W0.heap.size (placeCells [] false) rfl rfl 79 _ (Whole.fresh _ _ _) size_place rfl (place_one _ _) ?_; intro W3 hw3 ho3)
  have hne : w.heap.size ≠ W0.heap.size := by omega
  have HR3 := Lib.hid (ho3.whole (HR0.out.alloc _) hne)
  have HB3 := Lib.hid (ho3.below (HB0.out.alloc HB0.out.size _) (by omega))
  rw [← place_falses (p)] at hw3
  have HW3 := Lib.hid hw3
  clear hw3 ho3 e0 e1 e2 e3 e4 e5 e6 e7 e8
  go_wp2_with fail
  go_loopw [14] (fun i wr => ∃ (j : Nat) (bs : List Bool) (t : Bool), j ≤ n ∧ i = .int .i64 j ∧ bs.length = p ∧ Q = playW p L bs t ((rowNums rs).drop j) ∧ Whole wr w.heap.size 82 (crewCells p gL) ∧ Whole wr W0.heap.size 79 (placeCells bs t) ∧ Below w.heap.size w wr) (fun i _ => n - (intOf i).toNat)
  case atStart => exact ⟨0, falses (p), false, Nat.zero_le _, rfl, falses_len _, HPP.out, HR3.out, HW3.out, HB3.out⟩
  case round =>
    obtain ⟨j, bs, t, hj, rfl, hbs, hpl, hR, hPl, hb⟩ := hrel
    have HBS := Lib.hid hbs
    have HPL := Lib.hid hpl
    have HR := Lib.hid hR
    have HPC := Lib.hid hPl
    have HB := Lib.hid hb
    have hpll := hPl.lt
    clear hbs hpl
    by_cases hlt : j < n
    · have hlt' : j < rs.length := by have := HZ.out; omega
      have hlj : j < (rowNums rs).length := by rw [HLS.out]; exact hlt'
      have hDr := hD.below hb
      obtain ⟨b, o, rfl, hbl, hcell, hrow, hrl, hrn⟩ := hDr.look hlt'
      have HRW := Lib.hid hrow
      have HRL := Lib.hid hrl
      have HGT : Hid ((rowNums rs)[j] = rs[j].xs) := by show _ = _; simp [rowNums]
      clear hR hPl hb hDr hrow hrl
      go_wp2_with (first | (refine wpList_load_row rfl 82 (.tmp 2) rfl w.heap.size rfl 82 (crewCells p gL) (0, 0) _ HR.out Try.underlying82 rfl size_river ?_) | (refine wpList_load_row rfl 79 (.tmp 5) rfl W0.heap.size rfl 79 (placeCells bs t) (0, 0) _ HPC.out Try.underlying79 rfl size_place ?_))
      refine (behindCrew_any T p gL g A _ c _ _ L bs t rs[j].xs _ hp8 HBS.out hLl hup (HRF.out.below HB.out) HRW.out HRL.out hrn).mono ?_
      rintro e w4 ⟨⟨hmem, rfl⟩ | ⟨hmem, rfl⟩, hb4⟩
      · have HNX : Hid (Q = playW p L (flipped bs rs[j].xs) (!t) ((rowNums rs).drop (j + 1))) := by
          show _ = _
          rw [HPL.out, playW_next hlj (by rw [HGT.out]; exact hmem), HGT.out]
        have hPl4 := HPC.out.below hb4
        have hp4 := hPl4.lt
        have hR4 := HR.out.below hb4
        have HB4 := Lib.hid (below_then HB.out hb4 HB.out.size)
        have hn4 : W0.heap.size ≠ w4.heap.size := by omega
        have hn4' : w.heap.size ≠ w4.heap.size := by omega
        have HP4 := Lib.hid hPl4
        have HR4 := Lib.hid hR4
        clear hmem hb4 hcell hPl4 hR4
        go_upto_region 6 with (refine wpList_store_whole rfl 79 (.tmp 8) (.tmp 23) rfl w4.heap.size (placeCells (flipped bs rs[j].xs) (!t)) rfl rfl 79 _ (Whole.fresh _ _ _) size_place rfl (place_one _ _) ?_; intro W5 hw5 ho5)
        have HW5 := Lib.hid hw5
        have HP5 := Lib.hid (ho5.whole (HP4.out.alloc _) hn4)
        have HR5 := Lib.hid (ho5.whole (HR4.out.alloc _) hn4')
        have HB5 := Lib.hid (ho5.below (HB4.out.alloc HB4.out.size _) HB4.out.size)
        clear hw5 ho5
        go_upto_region 9 with (first | (refine wpList_load_row rfl 79 (.tmp 8) rfl w4.heap.size rfl 79 (placeCells (flipped bs rs[j].xs) (!t)) (0, 0) _ HW5.out Try.underlying79 rfl size_place ?_) | (refine wpList_store_whole rfl 79 (.tmp 5) (.tmp 27) rfl W0.heap.size (placeCells (flipped bs rs[j].xs) (!t)) rfl rfl 79 _ HP5.out size_place rfl (place_one _ _) ?_; intro W6 hw6 ho6))
        have HW6 := Lib.hid hw6
        have HR6 := Lib.hid (ho6.whole HR5.out hne)
        have HB6 := Lib.hid (ho6.below HB5.out (by omega))
        clear hw6 ho6
        go_wp2
        go_roundw
        case measure => simp [intOf]; omega
        case rel => exact ⟨j + 1, flipped bs rs[j].xs, !t, by omega, by go_num, by rw [flipped_len]; exact HBS.out, HNX.out, HR6.out, HW6.out, HB6.out⟩
      · have HST : Hid (Q = false) := by show _ = _; rw [HPL.out]; exact playW_stop hlj (by rw [HGT.out]; exact hmem)
        have HB4 := Lib.hid (below_then HB.out hb4 HB.out.size)
        clear hmem hb4 hcell
        go_upto_region 6 with (refine wpList_store_whole rfl 79 (.tmp 8) (.tmp 23) rfl w4.heap.size (placeCells bs t) rfl rfl 79 _ (Whole.fresh _ _ _) size_place rfl (place_one _ _) ?_; intro W5 hw5 ho5)
        have HB5 := Lib.hid (ho5.below (HB4.out.alloc HB4.out.size _) HB4.out.size)
        clear hw5 ho5
        go_wp2
        go_ret
        exact ⟨by rw [HST.out]; rfl, HB5.out⟩
    · have hje : j = n := by omega
      obtain ⟨f, hf⟩ : ∃ f : Nat → Bool, f = fun i => bs.getD i false := ⟨_, rfl⟩
      obtain ⟨u, hu⟩ : ∃ u : Nat → Bool, u = firstN (p) := ⟨_, rfl⟩
      have HEN : Hid (Q = samePlace (f 0) (f 1) (f 2) (f 3) (f 4) (f 5) (f 6) (f 7) t (u 0) (u 1) (u 2) (u 3) (u 4) (u 5) (u 6) (u 7) true) := by
        show _ = _
        have h := sameBits_ext (bs := bs) (cs := trues (p)) (HBS.out.trans (trues_len _).symm) (by have := HBS.out; omega)
        simp only [trues_at] at h
        rw [HPL.out, List.drop_eq_nil_of_le (by rw [HLS.out]; have := HZ.out; omega), playW]
        simp only [samePlace, hf, hu, h]
        simp
      rw [place_nine9, ← hf] at hPl
      obtain ⟨p0, p1, p2, p3, p4, p5, p6, p7⟩ := row8_of hPl
      have p8 : wr.cell? ⟨W0.heap.size, 8, none⟩ = some (.bool t) := hPl.cell 8
      have r0 : wr.cell? ⟨w.heap.size, 9, none⟩ = some (.bool (u 0)) := by rw [hu]; exact hR.cell 9
      have r1 : wr.cell? ⟨w.heap.size, 10, none⟩ = some (.bool (u 1)) := by rw [hu]; exact hR.cell 10
      have r2 : wr.cell? ⟨w.heap.size, 11, none⟩ = some (.bool (u 2)) := by rw [hu]; exact hR.cell 11
      have r3 : wr.cell? ⟨w.heap.size, 12, none⟩ = some (.bool (u 3)) := by rw [hu]; exact hR.cell 12
      have r4 : wr.cell? ⟨w.heap.size, 13, none⟩ = some (.bool (u 4)) := by rw [hu]; exact hR.cell 13
      have r5 : wr.cell? ⟨w.heap.size, 14, none⟩ = some (.bool (u 5)) := by rw [hu]; exact hR.cell 14
      have r6 : wr.cell? ⟨w.heap.size, 15, none⟩ = some (.bool (u 6)) := by rw [hu]; exact hR.cell 15
      have r7 : wr.cell? ⟨w.heap.size, 16, none⟩ = some (.bool (u 7)) := by rw [hu]; exact hR.cell 16
      have r8 : wr.cell? ⟨w.heap.size, 17, none⟩ = some (.bool true) := hR.cell 17
      clear hR hPl hb hje hf hu
      go_wp2
      go_ret
      exact ⟨by rw [HEN.out]; rfl, HB.out⟩
end Go.Proofs.Ytoedcieofjcgkaa

namespace Go.Proofs.Ytoedcieofjcgkaa
open Go.RowKit

/-- The places lie in block b0, an old one, or in a new one, but none of the call's own first three. -/
def Beside (B b0 : Nat) (w : World) (A : Option Addr) (xs : List Value) : Prop := b0 < B ∧ ∃ b o, A = some ⟨b, o, none⟩ ∧ b < w.heap.size ∧ (b = b0 ∨ B + 1 + 1 + 1 ≤ b) ∧ ∀ j u, xs[j]? = some u → w.cell? ⟨b, o + j, none⟩ = some u
theorem Beside.holds {B b0 : Nat} {w : World} {A : Option Addr} {xs : List Value} (h : Beside B b0 w A xs) : Holds w A xs := by
  obtain ⟨-, b, o, hA, hb, -, hc⟩ := h
  exact .inr ⟨b, o, hA, hb, hc⟩
theorem Beside.below {B b0 : Nat} {w w' : World} {A : Option Addr} {xs : List Value} (h : Beside B b0 w A xs) (hb : Below w.heap.size w w') : Beside B b0 w' A xs := by
  obtain ⟨h0, b, o, hA, hl, hd, hc⟩ := h
  exact ⟨h0, b, o, hA, Nat.lt_of_lt_of_le hl hb.size, hd, fun j u hu => (hb.cell (p := ⟨b, o + j, none⟩) hl).trans (hc j u hu)⟩
theorem Beside.set {B b0 g i : Nat} {w : World} {A : Option Addr} {xs : List Value} (h : Beside B b0 w A xs) (hg : B ≤ g ∧ g ≤ B + 1 + 1) (v : Value) : Beside B b0 (w.setCell ⟨g, i, none⟩ v) A xs := by
  obtain ⟨h0, b, o, hA, hl, hd, hc⟩ := h
  refine ⟨h0, b, o, hA, by simpa [World.setCell] using hl, hd, fun j u hu => ?_⟩
  have h1 := hc j u hu
  have h2 := Below.heap_setCell w ⟨g, i, none⟩ v b (by show b ≠ g; omega)
  simp only [World.cell?] at h1 ⊢
  rw [h2]
  exact h1
/-- A list that lies in block b0, or in a block from B on. -/
def OldOrNew (B b0 : Nat) (w : World) (A : Option Addr) (xs : List Value) : Prop := ∃ b o, A = some ⟨b, o, none⟩ ∧ b < w.heap.size ∧ (b = b0 ∨ B ≤ b) ∧ ∀ j u, xs[j]? = some u → w.cell? ⟨b, o + j, none⟩ = some u
theorem Beside.oldOrNew {B b0 : Nat} {w : World} {A : Option Addr} {xs : List Value} (h : Beside B b0 w A xs) : OldOrNew B b0 w A xs := by
  obtain ⟨-, b, o, hA, hl, hd, hc⟩ := h
  exact ⟨b, o, hA, hl, by omega, hc⟩
theorem OldOrNew.holds {B b0 : Nat} {w : World} {A : Option Addr} {xs : List Value} (h : OldOrNew B b0 w A xs) : Holds w A xs := by
  obtain ⟨b, o, hA, hb, -, hc⟩ := h
  exact .inr ⟨b, o, hA, hb, hc⟩
theorem OldOrNew.alloc {B b0 : Nat} {w : World} {A : Option Addr} {xs : List Value} (h : OldOrNew B b0 w A xs) (x : Obj) : OldOrNew B b0 (w.alloc x) A xs := by
  obtain ⟨b, o, hA, hb, hd, hc⟩ := h
  exact ⟨b, o, hA, by simp; omega, hd, fun j u hu => (World.cell?_alloc_lt w x ⟨b, o + j, none⟩ hb).trans (hc j u hu)⟩
theorem OldOrNew.set {B b0 g i : Nat} {w : World} {A : Option Addr} {xs : List Value} (h : OldOrNew B b0 w A xs) (hg : g < B) (hg0 : g ≠ b0) (v : Value) : OldOrNew B b0 (w.setCell ⟨g, i, none⟩ v) A xs := by
  obtain ⟨b, o, hA, hl, hd, hc⟩ := h
  refine ⟨b, o, hA, by simpa [World.setCell] using hl, hd, fun j u hu => ?_⟩
  have h1 := hc j u hu
  have h2 := Below.heap_setCell w ⟨g, i, none⟩ v b (by show b ≠ g; omega)
  simp only [World.cell?] at h1 ⊢
  rw [h2]
  exact h1
/-- What paPlay hands back. -/
def PlayAt (b0 : Nat) (n : Nat) (s : Int) (bs : List Bool) (t : Bool) (ls : List (List Int)) (m : Nat) (w : World) (e : Ending) (w' : World) : Prop :=
  ∃ (A : Option Addr) (c : Nat), e = .returned (.tuple #[.agg #[.slice A m c, .bool (ended n s bs t ls).2], .int .i64 (made n s bs t ls)]) ∧ OldOrNew w.heap.size b0 w' A (bits (ended n s bs t ls).1) ∧ Below w.heap.size w w'

end Go.Proofs.Ytoedcieofjcgkaa

namespace Go.Proofs.Ytoedcieofjcgkaa
open Go.RowKit

set_option maxHeartbeats 800000 in
theorem paSame_any (A B : Option Addr) (m c d : Nat) (bs cs : List Bool) (t u : Bool) (w : World) (hA : Holds w A (bits bs)) (hB : Holds w B (bits cs)) (hx : bs.length = m) (hy : cs.length = m) (hm : m ≤ 9223372036854775807) :
    Calls Try.prog 96 #[.agg #[.slice A m c, .bool t], .agg #[.slice B m d, .bool u]] w fun e w' => e = .returned (.bool (sameBits bs cs && (t == u))) ∧ Below w.heap.size w w' := by
  subst hx
  have hA2 := (hA.alloc (.cells #[.slice A bs.length c, .bool t] 48)).alloc (.cells #[.slice B bs.length d, .bool u] 48)
  have hB2 := (hB.alloc (.cells #[.slice A bs.length c, .bool t] 48)).alloc (.cells #[.slice B bs.length d, .bool u] 48)
  have HB := Lib.hid (below2 w (.cells #[.slice A bs.length c, .bool t] 48) (.cells #[.slice B bs.length d, .bool u] 48))
  have HY := Lib.hid hy
  clear hy
  go_enter Try.func96, Try.ntmps96
  go_wp2
  go_loop [10] (fun i => ∃ k : Nat, k ≤ bs.length ∧ i = .int .i64 k ∧ bs.take k = cs.take k) (fun i => bs.length - (intOf i).toNat)
  case atStart => exact ⟨0, Nat.zero_le _, rfl, rfl⟩
  case round =>
    obtain ⟨k, hk, rfl, ht⟩ := hrel
    have HT := Lib.hid ht
    clear ht
    by_cases hlt : k < bs.length
    · have hlt' : k < cs.length := by have := HY.out; omega
      obtain ⟨b, o, rfl, hb, hc⟩ := hA2.look (k := k) (by simpa [bits] using hlt)
      obtain ⟨b', o', rfl, hb', hc'⟩ := hB2.look (k := k) (by simpa [bits] using hlt')
      simp only [bits, List.getElem_map] at hc hc'
      by_cases he : bs[k] = cs[k]
      · have hne : (!(bs[k] == cs[k])) = false := by simp [he]
        have HE := Lib.hid he
        clear he
        go_wp2
        go_round
        case rel => exact ⟨k + 1, by omega, by go_num, take_nextB hlt hlt' HT.out HE.out⟩
        case measure => simp [intOf]; omega
      · have hne : (!(bs[k] == cs[k])) = true := by simp [he]
        have HN := Lib.hid (sameBits_no (fun h : bs = cs => he (by subst h; rfl)))
        clear he
        go_wp2
        go_ret
        exact ⟨by rw [HN.out]; rfl, HB.out⟩
    · have h1 := HT.out
      rw [List.take_of_length_le (by omega), List.take_of_length_le (by have := HY.out; omega)] at h1
      have HN := Lib.hid (sameBits_yes h1)
      clear h1
      go_wp2
      go_ret
      exact ⟨by rw [HN.out]; rfl, HB.out⟩

/-- Do the trips bring everybody and the torch over? -/
noncomputable def allOver (n : Nat) (s : Int) (ls : List (List Int)) : Bool := sameBits (ended n s (falses n) false ls).1 (trues n) && (ended n s (falses n) false ls).2
noncomputable def isPlan (n : Nat) (s : Int) (ls : List (List Int)) : Bool := decide (ls.length ≤ 40) && (decide (made n s (falses n) false ls = ls.length) && allOver n s ls)

theorem Whole.spots {w : World} {g : Nat} {t : TypeId} {xs : List Value} (h : Whole w g t xs.toArray) : ∀ j u, xs[j]? = some u → w.cell? ⟨g, 0 + j, none⟩ = some u := fun j u hu => by
  rw [Nat.zero_add, h.cell j]
  simpa using hu
/-- Behind the trips: the state lies in block g. -/
def EndMid (n : Nat) (s : Int) (ls : List (List Int)) (W : World) (v u : Value) (wx : World) : Prop :=
  ∃ (g : Nat) (A : Option Addr) (q : Nat), v = .pointer (some ⟨g, 0, none⟩) ∧ u = .int .i64 (made n s (falses n) false ls) ∧ Whole wx g 48 #[.slice A n q, .bool (ended n s (falses n) false ls).2] ∧ Holds wx A (bits (ended n s (falses n) false ls).1) ∧ Below W.heap.size W wx
theorem EndMid.last {n : Nat} {s : Int} {ls : List (List Int)} {W w : World} {A : Option Addr} {q : Nat} (hc : Below W.heap.size W w) (hA : Holds w A (bits (ended n s (falses n) false ls).1)) :
    EndMid n s ls W (.pointer (some ⟨w.heap.size, 0, none⟩)) (.int .i64 (made n s (falses n) false ls)) (w.alloc (.cells #[.slice A n q, .bool (ended n s (falses n) false ls).2] 48)) :=
  ⟨_, A, q, rfl, rfl, Whole.fresh _ _ _, hA.alloc _, hc.alloc hc.size _⟩
theorem EndMid.first {n : Nat} {s : Int} {ls : List (List Int)} {W w : World} {A : Option Addr} {q g b0 B : Nat} {a b : Value} (hc : Below W.heap.size W w) (hA : OldOrNew B b0 w A (bits (ended n s (falses n) false ls).1)) (hg : g < B) (hg0 : g ≠ b0) (hgW : W.heap.size ≤ g) (hw : Whole w g 48 #[a, b]) :
    EndMid n s ls W (.pointer (some ⟨g, 0, none⟩)) (.int .i64 (made n s (falses n) false ls)) ((w.setCell ⟨g, 0, none⟩ (.slice A n q)).setCell ⟨g, 1, none⟩ (.bool (ended n s (falses n) false ls).2)) :=
  ⟨g, A, q, rfl, rfl, (hw.set_ 0 _).set_ 1 _, ((hA.set hg hg0 _).set hg hg0 _).holds, below_set (below_set hc hgW) hgW⟩

end Go.Proofs.Ytoedcieofjcgkaa
