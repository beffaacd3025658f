/-
  What is proved: contracts of the model's tests of a row, told by bits and told as a list. Conditions: at most four couples.
  What is proved: a contract of the model's test of a row told as a list. Conditions: at most four couples.
  What is proved: contracts of the model's test of a plan of rows. Conditions: the lists are read as they lie; at most four couples.
  What is proved: a contract of the model's IsCalmPlan. Conditions: the arguments are read as they lie.
  What is proved: two places compared by ==. Conditions: none.
  What is proved: the model's test of a row, on numbers of states, and the program's list of rows, on places, tell the same rows. Conditions: at most four couples.
  What is proved: the contract of the program's test whether lists lead over, for rivers of companies. Conditions: the lists are read as they lie.
  What is proved: a contract of the program's IsCalmPlan. Conditions: the arguments are read as they lie.
  What is proved: the law FnExactIsCalmPlan returns true at every argument, and leaves all that was there as it was. Conditions: the arguments are read as they lie.
-/
import Derived.Deep.RegionHeld3
import Derived.Deep.DeepCutAuto
import Derived.Test.YtoedcieofjcgkaaJ4IsCalmPlan
set_option linter.unusedSimpArgs false
set_option linter.unusedVariables false
namespace Go.Proofs.Ytoedcieofjcgkaa
open Go.RowKit

/-- Those on the boat's side. -/
def hereM (k x : Nat) : Nat := if x % 2 = 0 then 2 ^ (2 * k) - 1 - x / 2 else x / 2
/-- A row, told by bits. -/
def canM (k : Nat) (q : Int) (x g : Nat) : Bool := decide (g &&& hereM k x = g) && (decide (((listOf g).length : Int) ≤ q) && (calm k (bitAt g) && quiet k (bitAt ((x ^^^ (2 * g + 1)) / 2))))
theorem can_no1 {k : Nat} {q : Int} {x g : Nat} (h : g &&& hereM k x ≠ g) : canM k q x g = false := by simp [canM, h]
theorem can_no2 {k : Nat} {q : Int} {x g : Nat} (h : q < ((listOf g).length : Int)) : canM k q x g = false := by simp [canM]; omega
theorem can_no3 {k : Nat} {q : Int} {x g : Nat} (h : calm k (bitAt g) = false) : canM k q x g = false := by simp [canM, h]
theorem can_on {k : Nat} {q : Int} {x g : Nat} (h1 : g &&& hereM k x = g) (h2 : ¬ q < ((listOf g).length : Int)) (h3 : calm k (bitAt g) = true) : canM k q x g = quiet k (bitAt ((x ^^^ (2 * g + 1)) / 2)) := by
  have h2' : ((listOf g).length : Int) ≤ q := by omega
  simp [canM, h1, h2', h3]

set_option maxHeartbeats 12800000 in
set_option maxRecDepth 100000 in
set_option linter.unusedSimpArgs false in
theorem cuCan_any (k : Nat) (q : Int) (x g : Nat) (w : World) (hk : k ≤ 4) (hx : x / 2 < 2 ^ (2 * k)) (hg0 : 1 ≤ g) (hg : g < 2 ^ (2 * k)) :
    Calls Try.prog 129 #[.agg #[.int .i64 k, .int .i64 q], .int .i64 x, .int .i64 g] w fun e w' => e = .returned (.bool (canM k q x g)) ∧ Below w.heap.size w w' := by
  have hp := pow_c hk
  have hg8 : g < 256 := by omega
  have hx8 : x / 2 < 256 := by omega
  have hc := Whole.fresh w 28 #[.int .i64 k, .int .i64 q]
  have ht := below1 w (.cells #[.int .i64 k, .int .i64 q] 28)
  have HXL := Lib.hid hx
  have HGL := Lib.hid hg
  obtain ⟨H, hH⟩ : ∃ H : Nat, H = hereM k x := ⟨_, rfl⟩
  have hHs : H < 256 := by rw [hH, hereM]; split <;> omega
  have HH := Lib.hid hH
  have hz : ((g : Int) == 0) = false := by simp; omega
  clear hx hg hH
  go_enter Try.func129, Try.ntmps129
  go_upto_if 12 with fail
  go_cut [7] (fun s7 wx => s7 = .int .i64 (H : Int) ∧ Whole wx w.heap.size 28 #[.int .i64 k, .int .i64 q] ∧ Below w.heap.size w wx)
  case first =>
    by_cases hev : x % 2 = 0
    · have h2 : ((x : Int) % 2 == 0) = true := by simp; omega
      have HE : Hid ((H : Int) = ((2 ^ (2 * k) : Nat) : Int) - 1 - (x : Int) / 2) := by show _ = _; rw [HH.out, hereM, if_pos hev]; have := HXL.out; omega
      obtain ⟨N, hN⟩ : ∃ N : Nat, N = 2 ^ (2 * k) := ⟨_, rfl⟩
      rw [← hN] at hp HE
      have HNN := Lib.hid hN
      clear hev hN
      go_wp2_with fail
      refine (cuSize_any k q _ hk).mono ?_
      rintro e w1 ⟨rfl, hb⟩
      rw [← HNN.out]
      have hc1 := hc.below hb
      have ht1 := below_then ht hb ht.size
      clear hb hc ht
      go_wp2_with fail
      go_meet
      exact ⟨by rw [HE.out], hc1, ht1⟩
    · have h2 : ((x : Int) % 2 == 0) = false := by simp; omega
      have HE : Hid ((H : Int) = (x : Int) / 2) := by show _ = _; rw [HH.out, hereM, if_neg hev]; omega
      clear hev
      go_wp2_with fail
      go_meet
      exact ⟨by rw [HE.out], hc, ht⟩
  case rest =>
    clear hc ht
    obtain ⟨rfl, hc, ht⟩ := hcut
    by_cases h1 : g &&& H = g
    · have hne : (Go.bits .and .i64 (g : Int) (H : Int) != (g : Int)) = false := by rw [bits_and_nat _ _ (by omega) (by omega), h1]; simp
      have H1 : Hid (g &&& hereM k x = g) := by show _ = _; rw [← HH.out]; exact h1
      clear h1
      by_cases h2 : q < ((listOf g).length : Int)
      · have hgt : decide (q < ((listOf g).length : Int)) = true := by simpa using h2
        have HP := Lib.hid (can_no2 (k := k) (x := x) h2)
        clear h2
        go_wp2_with fail
        refine wp_region_held_drew (S := (Box1 w.heap.size (.int .i64 k) (.int .i64 q))) (by kernel_rfl) (box1_of hc.drew) (fun hHeld => ?_)
        replace ht := ht.drew
        replace hc := hc.drew
        refine wpAnyH_take (i := 0) (v := ?_) rfl (by kernel_rfl) (by kernel_rfl) (by kernel_rfl) (fun _ _ _ h => h) (Or.inl ⟨rfl, ?_⟩) hHeld ?_
        rotate_left
        · intro w' hS; obtain ⟨s0, s1⟩ := hS; go_simp <;> with_reducible rfl
        simp only [Act.put, List.getElem_toArray, List.getElem_cons_succ, List.getElem_cons_zero, List.setIfInBounds_toArray, List.set_cons_succ, List.set_cons_zero]
        refine wpAnyH_take (i := 1) (v := ?_) rfl (by kernel_rfl) (by kernel_rfl) (by kernel_rfl) (fun _ _ _ h => h) (Or.inl ⟨rfl, ?_⟩) hHeld ?_
        rotate_left
        · intro w' hS; obtain ⟨s0, s1⟩ := hS; go_simp <;> with_reducible rfl
        simp only [Act.put, List.getElem_toArray, List.getElem_cons_succ, List.getElem_cons_zero, List.setIfInBounds_toArray, List.set_cons_succ, List.set_cons_zero]
        refine wpAnyH_take (i := 2) (v := ?_) rfl (by kernel_rfl) (by kernel_rfl) (by kernel_rfl) (fun _ _ _ h => h) (Or.inl ⟨rfl, ?_⟩) hHeld ?_
        rotate_left
        · intro w' hS; obtain ⟨s0, s1⟩ := hS; go_simp <;> with_reducible rfl
        simp only [Act.put, List.getElem_toArray, List.getElem_cons_succ, List.getElem_cons_zero, List.setIfInBounds_toArray, List.set_cons_succ, List.set_cons_zero]
        refine wpAnyH_take (i := 3) (v := ?_) rfl (by kernel_rfl) (by kernel_rfl) (by kernel_rfl) (fun _ _ _ h => h) (Or.inl ⟨rfl, ?_⟩) hHeld ?_
        rotate_left
        · intro w' hS; obtain ⟨s0, s1⟩ := hS; go_simp <;> with_reducible rfl
        simp only [Act.put, List.getElem_toArray, List.getElem_cons_succ, List.getElem_cons_zero, List.setIfInBounds_toArray, List.set_cons_succ, List.set_cons_zero]
        refine wpAnyH_take (i := 4) (v := ?_) rfl (by kernel_rfl) (by kernel_rfl) (by kernel_rfl) (fun _ _ _ h => h) (Or.inl ⟨rfl, ?_⟩) hHeld ?_
        rotate_left
        · intro w' hS; obtain ⟨s0, s1⟩ := hS; go_simp <;> with_reducible rfl
        simp only [Act.put, List.getElem_toArray, List.getElem_cons_succ, List.getElem_cons_zero, List.setIfInBounds_toArray, List.set_cons_succ, List.set_cons_zero]
        refine wpAnyH_take (i := 5) (v := ?_) rfl (by kernel_rfl) (by kernel_rfl) (by kernel_rfl) (fun _ _ _ h => h) (Or.inl ⟨rfl, ?_⟩) hHeld ?_
        rotate_left
        · intro w' hS; obtain ⟨s0, s1⟩ := hS; go_simp <;> with_reducible rfl
        simp only [Act.put, List.getElem_toArray, List.getElem_cons_succ, List.getElem_cons_zero, List.setIfInBounds_toArray, List.set_cons_succ, List.set_cons_zero]
        refine wpAnyH_take (i := 6) (v := ?_) rfl (by kernel_rfl) (by kernel_rfl) (by kernel_rfl) (fun _ _ _ h => h) (Or.inl ⟨rfl, ?_⟩) hHeld ?_
        rotate_left
        · intro w' hS; obtain ⟨s0, s1⟩ := hS; go_simp <;> with_reducible rfl
        simp only [Act.put, List.getElem_toArray, List.getElem_cons_succ, List.getElem_cons_zero, List.setIfInBounds_toArray, List.set_cons_succ, List.set_cons_zero]
        refine wpAnyH_take (i := 7) (v := ?_) rfl (by kernel_rfl) (by kernel_rfl) (by kernel_rfl) (fun _ _ _ h => h) (Or.inl ⟨rfl, ?_⟩) hHeld ?_
        rotate_left
        · intro w' hS; obtain ⟨s0, s1⟩ := hS; go_simp <;> with_reducible rfl
        simp only [Act.put, List.getElem_toArray, List.getElem_cons_succ, List.getElem_cons_zero, List.setIfInBounds_toArray, List.set_cons_succ, List.set_cons_zero]
        refine wpAnyH_take (i := 8) (v := ?_) rfl (by kernel_rfl) (by kernel_rfl) (by kernel_rfl) (fun _ _ _ h => h) (Or.inl ⟨rfl, ?_⟩) hHeld ?_
        rotate_left
        · intro w' hS; obtain ⟨s0, s1⟩ := hS; go_simp <;> with_reducible rfl
        simp only [Act.put, List.getElem_toArray, List.getElem_cons_succ, List.getElem_cons_zero, List.setIfInBounds_toArray, List.set_cons_succ, List.set_cons_zero]
        refine wpAnyH_take (i := 9) (v := ?_) rfl (by kernel_rfl) (by kernel_rfl) (by kernel_rfl) (fun _ _ _ h => h) (Or.inl ⟨rfl, ?_⟩) hHeld ?_
        rotate_left
        · intro w' hS; obtain ⟨s0, s1⟩ := hS; go_simp <;> with_reducible rfl
        simp only [Act.put, List.getElem_toArray, List.getElem_cons_succ, List.getElem_cons_zero, List.setIfInBounds_toArray, List.set_cons_succ, List.set_cons_zero]
        refine wpAnyH_take (i := 10) (v := ?_) rfl (by kernel_rfl) (by kernel_rfl) (by kernel_rfl) (fun _ _ _ h => h) (Or.inl ⟨rfl, ?_⟩) hHeld ?_
        rotate_left
        · intro w' hS; obtain ⟨s0, s1⟩ := hS; go_simp <;> with_reducible rfl
        simp only [Act.put, List.getElem_toArray, List.getElem_cons_succ, List.getElem_cons_zero, List.setIfInBounds_toArray, List.set_cons_succ, List.set_cons_zero]
        refine wpAnyH_take (i := 13) (v := ?_) rfl (by kernel_rfl) (by kernel_rfl) (by kernel_rfl) (fun _ _ _ h => h) (Or.inl ⟨rfl, ?_⟩) hHeld ?_
        rotate_left
        · intro w' hS; obtain ⟨s0, s1⟩ := hS; go_simp <;> with_reducible rfl
        simp only [Act.put, List.getElem_toArray, List.getElem_cons_succ, List.getElem_cons_zero, List.setIfInBounds_toArray, List.set_cons_succ, List.set_cons_zero]
        refine wpAnyH_take (i := 14) (v := ?_) rfl (by kernel_rfl) (by kernel_rfl) (by kernel_rfl) (fun _ _ _ h => h) (Or.inl ⟨rfl, ?_⟩) hHeld ?_
        rotate_left
        · intro w' hS; obtain ⟨s0, s1⟩ := hS; go_simp <;> with_reducible rfl
        simp only [Act.put, List.getElem_toArray, List.getElem_cons_succ, List.getElem_cons_zero, List.setIfInBounds_toArray, List.set_cons_succ, List.set_cons_zero]
        refine wpAnyH_ready (rs := [11]) (by kernel_rfl) (by simp) (AllReadyH.cons rfl (fun K hK => ?_) AllReadyH.nil)
        go_simp
        refine (cuList_any g _ hg8).mono ?_
        rintro e w1 ⟨E, r, rfl, -, hb⟩
        replace ht := below_then ht hb ht.size
        replace hc := hc.below hb
        clear hb
        refine hK.out _ _ (box1_of hc) (fun hHeld => ?_)
        clear hK K
        try simp only [Act.put, List.getElem_toArray, List.getElem_cons_succ, List.getElem_cons_zero, List.setIfInBounds_toArray, List.set_cons_succ, List.set_cons_zero]
        refine wpAnyH_take (i := 12) (v := ?_) rfl (by kernel_rfl) (by kernel_rfl) (by kernel_rfl) (fun _ _ _ h => h) (Or.inl ⟨rfl, ?_⟩) hHeld ?_
        rotate_left
        · intro w' hS; obtain ⟨s0, s1⟩ := hS; go_simp <;> with_reducible rfl
        simp only [Act.put, List.getElem_toArray, List.getElem_cons_succ, List.getElem_cons_zero, List.setIfInBounds_toArray, List.set_cons_succ, List.set_cons_zero]
        refine wpAnyH_take (i := 15) (v := ?_) rfl (by kernel_rfl) (by kernel_rfl) (by kernel_rfl) (fun _ _ _ h => h) (Or.inl ⟨rfl, ?_⟩) hHeld ?_
        rotate_left
        · intro w' hS; obtain ⟨s0, s1⟩ := hS; go_simp <;> with_reducible rfl
        simp only [Act.put, List.getElem_toArray, List.getElem_cons_succ, List.getElem_cons_zero, List.setIfInBounds_toArray, List.set_cons_succ, List.set_cons_zero]
        refine wpAnyH_take (i := 16) (v := ?_) rfl (by kernel_rfl) (by kernel_rfl) (by kernel_rfl) (fun _ _ _ h => h) (Or.inl ⟨rfl, ?_⟩) hHeld ?_
        rotate_left
        · intro w' hS; obtain ⟨s0, s1⟩ := hS; go_simp <;> with_reducible rfl
        simp only [Act.put, List.getElem_toArray, List.getElem_cons_succ, List.getElem_cons_zero, List.setIfInBounds_toArray, List.set_cons_succ, List.set_cons_zero]
        refine wpAnyH_take (i := 17) (v := ?_) rfl (by kernel_rfl) (by kernel_rfl) (by kernel_rfl) (fun _ _ _ h => h) (Or.inl ⟨rfl, ?_⟩) hHeld ?_
        rotate_left
        · intro w' hS; obtain ⟨s0, s1⟩ := hS; go_simp <;> with_reducible rfl
        simp only [Act.put, List.getElem_toArray, List.getElem_cons_succ, List.getElem_cons_zero, List.setIfInBounds_toArray, List.set_cons_succ, List.set_cons_zero]
        refine wpAnyH_take (i := 18) (v := undef) rfl (by kernel_rfl) (by kernel_rfl) (by kernel_rfl) (fun _ _ _ h => h) (Or.inr ⟨by simp [Region.wanted, yielded], rfl⟩) hHeld ?_
        simp only [Act.put, List.getElem_toArray, List.getElem_cons_succ, List.getElem_cons_zero, List.setIfInBounds_toArray, List.set_cons_succ, List.set_cons_zero]
        refine wpAnyH_take (i := 19) (v := undef) rfl (by kernel_rfl) (by kernel_rfl) (by kernel_rfl) (fun _ _ _ h => h) (Or.inr ⟨by simp [Region.wanted, yielded], rfl⟩) hHeld ?_
        simp only [Act.put, List.getElem_toArray, List.getElem_cons_succ, List.getElem_cons_zero, List.setIfInBounds_toArray, List.set_cons_succ, List.set_cons_zero]
        refine wpAnyH_take (i := 20) (v := undef) rfl (by kernel_rfl) (by kernel_rfl) (by kernel_rfl) (fun _ _ _ h => h) (Or.inr ⟨by simp [Region.wanted, yielded], rfl⟩) hHeld ?_
        simp only [Act.put, List.getElem_toArray, List.getElem_cons_succ, List.getElem_cons_zero, List.setIfInBounds_toArray, List.set_cons_succ, List.set_cons_zero]
        refine wpAnyH_take (i := 21) (v := undef) rfl (by kernel_rfl) (by kernel_rfl) (by kernel_rfl) (fun _ _ _ h => h) (Or.inr ⟨by simp [Region.wanted, yielded], rfl⟩) hHeld ?_
        simp only [Act.put, List.getElem_toArray, List.getElem_cons_succ, List.getElem_cons_zero, List.setIfInBounds_toArray, List.set_cons_succ, List.set_cons_zero]
        refine wpAnyH_take (i := 22) (v := undef) rfl (by kernel_rfl) (by kernel_rfl) (by kernel_rfl) (fun _ _ _ h => h) (Or.inr ⟨by simp [Region.wanted, yielded], rfl⟩) hHeld ?_
        simp only [Act.put, List.getElem_toArray, List.getElem_cons_succ, List.getElem_cons_zero, List.setIfInBounds_toArray, List.set_cons_succ, List.set_cons_zero]
        refine wpAnyH_take (i := 23) (v := ?_) rfl (by kernel_rfl) (by kernel_rfl) (by kernel_rfl) (fun _ _ _ h => h) (Or.inl ⟨rfl, ?_⟩) hHeld ?_
        rotate_left
        · intro w' hS; obtain ⟨s0, s1⟩ := hS; go_simp <;> with_reducible rfl
        simp only [Act.put, List.getElem_toArray, List.getElem_cons_succ, List.getElem_cons_zero, List.setIfInBounds_toArray, List.set_cons_succ, List.set_cons_zero]
        refine wpAnyH_done (by kernel_rfl) ?_ _
        clear hHeld
        go_wp2
        go_ret
        exact ⟨ret_of (by rw [HP.out]; rfl), ht⟩
      · have hgt : decide (q < ((listOf g).length : Int)) = false := by simpa using h2
        cases h3 : calm k (bitAt g)
        · have HP := Lib.hid (can_no3 (q := q) (x := x) h3)
          have HCA := Lib.hid h3
          clear h2 h3
          go_wp2_with fail
          refine wp_region_held_drew (S := (Box1 w.heap.size (.int .i64 k) (.int .i64 q))) (by kernel_rfl) (box1_of hc.drew) (fun hHeld => ?_)
          replace ht := ht.drew
          replace hc := hc.drew
          refine wpAnyH_take (i := 0) (v := ?_) rfl (by kernel_rfl) (by kernel_rfl) (by kernel_rfl) (fun _ _ _ h => h) (Or.inl ⟨rfl, ?_⟩) hHeld ?_
          rotate_left
          · intro w' hS; obtain ⟨s0, s1⟩ := hS; go_simp <;> with_reducible rfl
          simp only [Act.put, List.getElem_toArray, List.getElem_cons_succ, List.getElem_cons_zero, List.setIfInBounds_toArray, List.set_cons_succ, List.set_cons_zero]
          refine wpAnyH_take (i := 1) (v := ?_) rfl (by kernel_rfl) (by kernel_rfl) (by kernel_rfl) (fun _ _ _ h => h) (Or.inl ⟨rfl, ?_⟩) hHeld ?_
          rotate_left
          · intro w' hS; obtain ⟨s0, s1⟩ := hS; go_simp <;> with_reducible rfl
          simp only [Act.put, List.getElem_toArray, List.getElem_cons_succ, List.getElem_cons_zero, List.setIfInBounds_toArray, List.set_cons_succ, List.set_cons_zero]
          refine wpAnyH_take (i := 2) (v := ?_) rfl (by kernel_rfl) (by kernel_rfl) (by kernel_rfl) (fun _ _ _ h => h) (Or.inl ⟨rfl, ?_⟩) hHeld ?_
          rotate_left
          · intro w' hS; obtain ⟨s0, s1⟩ := hS; go_simp <;> with_reducible rfl
          simp only [Act.put, List.getElem_toArray, List.getElem_cons_succ, List.getElem_cons_zero, List.setIfInBounds_toArray, List.set_cons_succ, List.set_cons_zero]
          refine wpAnyH_take (i := 3) (v := ?_) rfl (by kernel_rfl) (by kernel_rfl) (by kernel_rfl) (fun _ _ _ h => h) (Or.inl ⟨rfl, ?_⟩) hHeld ?_
          rotate_left
          · intro w' hS; obtain ⟨s0, s1⟩ := hS; go_simp <;> with_reducible rfl
          simp only [Act.put, List.getElem_toArray, List.getElem_cons_succ, List.getElem_cons_zero, List.setIfInBounds_toArray, List.set_cons_succ, List.set_cons_zero]
          refine wpAnyH_take (i := 4) (v := ?_) rfl (by kernel_rfl) (by kernel_rfl) (by kernel_rfl) (fun _ _ _ h => h) (Or.inl ⟨rfl, ?_⟩) hHeld ?_
          rotate_left
          · intro w' hS; obtain ⟨s0, s1⟩ := hS; go_simp <;> with_reducible rfl
          simp only [Act.put, List.getElem_toArray, List.getElem_cons_succ, List.getElem_cons_zero, List.setIfInBounds_toArray, List.set_cons_succ, List.set_cons_zero]
          refine wpAnyH_take (i := 5) (v := ?_) rfl (by kernel_rfl) (by kernel_rfl) (by kernel_rfl) (fun _ _ _ h => h) (Or.inl ⟨rfl, ?_⟩) hHeld ?_
          rotate_left
          · intro w' hS; obtain ⟨s0, s1⟩ := hS; go_simp <;> with_reducible rfl
          simp only [Act.put, List.getElem_toArray, List.getElem_cons_succ, List.getElem_cons_zero, List.setIfInBounds_toArray, List.set_cons_succ, List.set_cons_zero]
          refine wpAnyH_take (i := 6) (v := ?_) rfl (by kernel_rfl) (by kernel_rfl) (by kernel_rfl) (fun _ _ _ h => h) (Or.inl ⟨rfl, ?_⟩) hHeld ?_
          rotate_left
          · intro w' hS; obtain ⟨s0, s1⟩ := hS; go_simp <;> with_reducible rfl
          simp only [Act.put, List.getElem_toArray, List.getElem_cons_succ, List.getElem_cons_zero, List.setIfInBounds_toArray, List.set_cons_succ, List.set_cons_zero]
          refine wpAnyH_take (i := 7) (v := ?_) rfl (by kernel_rfl) (by kernel_rfl) (by kernel_rfl) (fun _ _ _ h => h) (Or.inl ⟨rfl, ?_⟩) hHeld ?_
          rotate_left
          · intro w' hS; obtain ⟨s0, s1⟩ := hS; go_simp <;> with_reducible rfl
          simp only [Act.put, List.getElem_toArray, List.getElem_cons_succ, List.getElem_cons_zero, List.setIfInBounds_toArray, List.set_cons_succ, List.set_cons_zero]
          refine wpAnyH_take (i := 8) (v := ?_) rfl (by kernel_rfl) (by kernel_rfl) (by kernel_rfl) (fun _ _ _ h => h) (Or.inl ⟨rfl, ?_⟩) hHeld ?_
          rotate_left
          · intro w' hS; obtain ⟨s0, s1⟩ := hS; go_simp <;> with_reducible rfl
          simp only [Act.put, List.getElem_toArray, List.getElem_cons_succ, List.getElem_cons_zero, List.setIfInBounds_toArray, List.set_cons_succ, List.set_cons_zero]
          refine wpAnyH_take (i := 9) (v := ?_) rfl (by kernel_rfl) (by kernel_rfl) (by kernel_rfl) (fun _ _ _ h => h) (Or.inl ⟨rfl, ?_⟩) hHeld ?_
          rotate_left
          · intro w' hS; obtain ⟨s0, s1⟩ := hS; go_simp <;> with_reducible rfl
          simp only [Act.put, List.getElem_toArray, List.getElem_cons_succ, List.getElem_cons_zero, List.setIfInBounds_toArray, List.set_cons_succ, List.set_cons_zero]
          refine wpAnyH_take (i := 10) (v := ?_) rfl (by kernel_rfl) (by kernel_rfl) (by kernel_rfl) (fun _ _ _ h => h) (Or.inl ⟨rfl, ?_⟩) hHeld ?_
          rotate_left
          · intro w' hS; obtain ⟨s0, s1⟩ := hS; go_simp <;> with_reducible rfl
          simp only [Act.put, List.getElem_toArray, List.getElem_cons_succ, List.getElem_cons_zero, List.setIfInBounds_toArray, List.set_cons_succ, List.set_cons_zero]
          refine wpAnyH_take (i := 13) (v := ?_) rfl (by kernel_rfl) (by kernel_rfl) (by kernel_rfl) (fun _ _ _ h => h) (Or.inl ⟨rfl, ?_⟩) hHeld ?_
          rotate_left
          · intro w' hS; obtain ⟨s0, s1⟩ := hS; go_simp <;> with_reducible rfl
          simp only [Act.put, List.getElem_toArray, List.getElem_cons_succ, List.getElem_cons_zero, List.setIfInBounds_toArray, List.set_cons_succ, List.set_cons_zero]
          refine wpAnyH_take (i := 14) (v := ?_) rfl (by kernel_rfl) (by kernel_rfl) (by kernel_rfl) (fun _ _ _ h => h) (Or.inl ⟨rfl, ?_⟩) hHeld ?_
          rotate_left
          · intro w' hS; obtain ⟨s0, s1⟩ := hS; go_simp <;> with_reducible rfl
          simp only [Act.put, List.getElem_toArray, List.getElem_cons_succ, List.getElem_cons_zero, List.setIfInBounds_toArray, List.set_cons_succ, List.set_cons_zero]
          refine wpAnyH_ready (rs := [11]) (by kernel_rfl) (by simp) (AllReadyH.cons rfl (fun K hK => ?_) AllReadyH.nil)
          go_simp
          refine (cuList_any g _ hg8).mono ?_
          rintro e w1 ⟨E, r, rfl, -, hb⟩
          replace ht := below_then ht hb ht.size
          replace hc := hc.below hb
          clear hb
          refine hK.out _ _ (box1_of hc) (fun hHeld => ?_)
          clear hK K
          try simp only [Act.put, List.getElem_toArray, List.getElem_cons_succ, List.getElem_cons_zero, List.setIfInBounds_toArray, List.set_cons_succ, List.set_cons_zero]
          refine wpAnyH_take (i := 12) (v := ?_) rfl (by kernel_rfl) (by kernel_rfl) (by kernel_rfl) (fun _ _ _ h => h) (Or.inl ⟨rfl, ?_⟩) hHeld ?_
          rotate_left
          · intro w' hS; obtain ⟨s0, s1⟩ := hS; go_simp <;> with_reducible rfl
          simp only [Act.put, List.getElem_toArray, List.getElem_cons_succ, List.getElem_cons_zero, List.setIfInBounds_toArray, List.set_cons_succ, List.set_cons_zero]
          refine wpAnyH_take (i := 15) (v := ?_) rfl (by kernel_rfl) (by kernel_rfl) (by kernel_rfl) (fun _ _ _ h => h) (Or.inl ⟨rfl, ?_⟩) hHeld ?_
          rotate_left
          · intro w' hS; obtain ⟨s0, s1⟩ := hS; go_simp <;> with_reducible rfl
          simp only [Act.put, List.getElem_toArray, List.getElem_cons_succ, List.getElem_cons_zero, List.setIfInBounds_toArray, List.set_cons_succ, List.set_cons_zero]
          refine wpAnyH_take (i := 16) (v := ?_) rfl (by kernel_rfl) (by kernel_rfl) (by kernel_rfl) (fun _ _ _ h => h) (Or.inl ⟨rfl, ?_⟩) hHeld ?_
          rotate_left
          · intro w' hS; obtain ⟨s0, s1⟩ := hS; go_simp <;> with_reducible rfl
          simp only [Act.put, List.getElem_toArray, List.getElem_cons_succ, List.getElem_cons_zero, List.setIfInBounds_toArray, List.set_cons_succ, List.set_cons_zero]
          refine wpAnyH_take (i := 17) (v := ?_) rfl (by kernel_rfl) (by kernel_rfl) (by kernel_rfl) (fun _ _ _ h => h) (Or.inl ⟨rfl, ?_⟩) hHeld ?_
          rotate_left
          · intro w' hS; obtain ⟨s0, s1⟩ := hS; go_simp <;> with_reducible rfl
          simp only [Act.put, List.getElem_toArray, List.getElem_cons_succ, List.getElem_cons_zero, List.setIfInBounds_toArray, List.set_cons_succ, List.set_cons_zero]
          refine wpAnyH_take (i := 18) (v := ?_) rfl (by kernel_rfl) (by kernel_rfl) (by kernel_rfl) (fun _ _ _ h => h) (Or.inl ⟨rfl, ?_⟩) hHeld ?_
          rotate_left
          · intro w' hS; obtain ⟨s0, s1⟩ := hS; go_simp <;> with_reducible rfl
          simp only [Act.put, List.getElem_toArray, List.getElem_cons_succ, List.getElem_cons_zero, List.setIfInBounds_toArray, List.set_cons_succ, List.set_cons_zero]
          refine wpAnyH_take (i := 19) (v := ?_) rfl (by kernel_rfl) (by kernel_rfl) (by kernel_rfl) (fun _ _ _ h => h) (Or.inl ⟨rfl, ?_⟩) hHeld ?_
          rotate_left
          · intro w' hS; obtain ⟨s0, s1⟩ := hS; go_simp <;> with_reducible rfl
          simp only [Act.put, List.getElem_toArray, List.getElem_cons_succ, List.getElem_cons_zero, List.setIfInBounds_toArray, List.set_cons_succ, List.set_cons_zero]
          refine wpAnyH_take (i := 20) (v := ?_) rfl (by kernel_rfl) (by kernel_rfl) (by kernel_rfl) (fun _ _ _ h => h) (Or.inl ⟨rfl, ?_⟩) hHeld ?_
          rotate_left
          · intro w' hS; obtain ⟨s0, s1⟩ := hS; go_simp <;> with_reducible rfl
          simp only [Act.put, List.getElem_toArray, List.getElem_cons_succ, List.getElem_cons_zero, List.setIfInBounds_toArray, List.set_cons_succ, List.set_cons_zero]
          refine wpAnyH_ready (rs := [21]) (by kernel_rfl) (by simp) (AllReadyH.cons rfl (fun K hK => ?_) AllReadyH.nil)
          go_simp
          refine (cuCalm_any k g _ hk).mono ?_
          rintro e w2 ⟨rfl, rfl⟩
          rw [HCA.out]
          refine hK.out _ _ (box1_of hc) (fun hHeld => ?_)
          clear hK K
          try simp only [Act.put, List.getElem_toArray, List.getElem_cons_succ, List.getElem_cons_zero, List.setIfInBounds_toArray, List.set_cons_succ, List.set_cons_zero]
          refine wpAnyH_take (i := 22) (v := ?_) rfl (by kernel_rfl) (by kernel_rfl) (by kernel_rfl) (fun _ _ _ h => h) (Or.inl ⟨rfl, ?_⟩) hHeld ?_
          rotate_left
          · intro w' hS; obtain ⟨s0, s1⟩ := hS; go_simp <;> with_reducible rfl
          simp only [Act.put, List.getElem_toArray, List.getElem_cons_succ, List.getElem_cons_zero, List.setIfInBounds_toArray, List.set_cons_succ, List.set_cons_zero]
          refine wpAnyH_take (i := 23) (v := ?_) rfl (by kernel_rfl) (by kernel_rfl) (by kernel_rfl) (fun _ _ _ h => h) (Or.inl ⟨rfl, ?_⟩) hHeld ?_
          rotate_left
          · intro w' hS; obtain ⟨s0, s1⟩ := hS; go_simp <;> with_reducible rfl
          simp only [Act.put, List.getElem_toArray, List.getElem_cons_succ, List.getElem_cons_zero, List.setIfInBounds_toArray, List.set_cons_succ, List.set_cons_zero]
          refine wpAnyH_done (by kernel_rfl) ?_ _
          clear hHeld
          go_wp2
          go_ret
          exact ⟨ret_of (by rw [HP.out]; rfl), ht⟩
        · have HP := Lib.hid (can_on H1.out h2 h3)
          have HCA := Lib.hid h3
          have HXX := Lib.hid (show Go.bits .xor .i64 (x : Int) (2 * (g : Int) + 1) = ((x ^^^ (2 * g + 1) : Nat) : Int) by
            rw [show (2 * (g : Int) + 1) = ((2 * g + 1 : Nat) : Int) by omega]; exact bits_xor_nat _ _ (by omega) (by omega))
          have HYL : Hid ((x ^^^ (2 * g + 1)) / 2 < 2 ^ (2 * k)) := by
            show _ < _
            have ha : x < 2 ^ (2 * k + 1) := by have := HXL.out; rw [Nat.pow_succ]; omega
            have hb : 2 * g + 1 < 2 ^ (2 * k + 1) := by have := HGL.out; rw [Nat.pow_succ]; omega
            have := Nat.xor_lt_two_pow ha hb
            rw [Nat.pow_succ] at this
            omega
          clear h2 h3
          go_wp2_with fail
          refine wp_region_held_drew (S := (Box1 w.heap.size (.int .i64 k) (.int .i64 q))) (by kernel_rfl) (box1_of hc.drew) (fun hHeld => ?_)
          replace ht := ht.drew
          replace hc := hc.drew
          refine wpAnyH_take (i := 0) (v := ?_) rfl (by kernel_rfl) (by kernel_rfl) (by kernel_rfl) (fun _ _ _ h => h) (Or.inl ⟨rfl, ?_⟩) hHeld ?_
          rotate_left
          · intro w' hS; obtain ⟨s0, s1⟩ := hS; go_simp <;> with_reducible rfl
          simp only [Act.put, List.getElem_toArray, List.getElem_cons_succ, List.getElem_cons_zero, List.setIfInBounds_toArray, List.set_cons_succ, List.set_cons_zero]
          refine wpAnyH_take (i := 1) (v := ?_) rfl (by kernel_rfl) (by kernel_rfl) (by kernel_rfl) (fun _ _ _ h => h) (Or.inl ⟨rfl, ?_⟩) hHeld ?_
          rotate_left
          · intro w' hS; obtain ⟨s0, s1⟩ := hS; go_simp <;> with_reducible rfl
          simp only [Act.put, List.getElem_toArray, List.getElem_cons_succ, List.getElem_cons_zero, List.setIfInBounds_toArray, List.set_cons_succ, List.set_cons_zero]
          refine wpAnyH_take (i := 2) (v := ?_) rfl (by kernel_rfl) (by kernel_rfl) (by kernel_rfl) (fun _ _ _ h => h) (Or.inl ⟨rfl, ?_⟩) hHeld ?_
          rotate_left
          · intro w' hS; obtain ⟨s0, s1⟩ := hS; go_simp <;> with_reducible rfl
          simp only [Act.put, List.getElem_toArray, List.getElem_cons_succ, List.getElem_cons_zero, List.setIfInBounds_toArray, List.set_cons_succ, List.set_cons_zero]
          refine wpAnyH_take (i := 3) (v := ?_) rfl (by kernel_rfl) (by kernel_rfl) (by kernel_rfl) (fun _ _ _ h => h) (Or.inl ⟨rfl, ?_⟩) hHeld ?_
          rotate_left
          · intro w' hS; obtain ⟨s0, s1⟩ := hS; go_simp <;> with_reducible rfl
          simp only [Act.put, List.getElem_toArray, List.getElem_cons_succ, List.getElem_cons_zero, List.setIfInBounds_toArray, List.set_cons_succ, List.set_cons_zero]
          refine wpAnyH_take (i := 4) (v := ?_) rfl (by kernel_rfl) (by kernel_rfl) (by kernel_rfl) (fun _ _ _ h => h) (Or.inl ⟨rfl, ?_⟩) hHeld ?_
          rotate_left
          · intro w' hS; obtain ⟨s0, s1⟩ := hS; go_simp <;> with_reducible rfl
          simp only [Act.put, List.getElem_toArray, List.getElem_cons_succ, List.getElem_cons_zero, List.setIfInBounds_toArray, List.set_cons_succ, List.set_cons_zero]
          refine wpAnyH_take (i := 5) (v := ?_) rfl (by kernel_rfl) (by kernel_rfl) (by kernel_rfl) (fun _ _ _ h => h) (Or.inl ⟨rfl, ?_⟩) hHeld ?_
          rotate_left
          · intro w' hS; obtain ⟨s0, s1⟩ := hS; go_simp <;> with_reducible rfl
          simp only [Act.put, List.getElem_toArray, List.getElem_cons_succ, List.getElem_cons_zero, List.setIfInBounds_toArray, List.set_cons_succ, List.set_cons_zero]
          refine wpAnyH_take (i := 6) (v := ?_) rfl (by kernel_rfl) (by kernel_rfl) (by kernel_rfl) (fun _ _ _ h => h) (Or.inl ⟨rfl, ?_⟩) hHeld ?_
          rotate_left
          · intro w' hS; obtain ⟨s0, s1⟩ := hS; go_simp <;> with_reducible rfl
          simp only [Act.put, List.getElem_toArray, List.getElem_cons_succ, List.getElem_cons_zero, List.setIfInBounds_toArray, List.set_cons_succ, List.set_cons_zero]
          refine wpAnyH_take (i := 7) (v := ?_) rfl (by kernel_rfl) (by kernel_rfl) (by kernel_rfl) (fun _ _ _ h => h) (Or.inl ⟨rfl, ?_⟩) hHeld ?_
          rotate_left
          · intro w' hS; obtain ⟨s0, s1⟩ := hS; go_simp <;> with_reducible rfl
          simp only [Act.put, List.getElem_toArray, List.getElem_cons_succ, List.getElem_cons_zero, List.setIfInBounds_toArray, List.set_cons_succ, List.set_cons_zero]
          refine wpAnyH_take (i := 8) (v := ?_) rfl (by kernel_rfl) (by kernel_rfl) (by kernel_rfl) (fun _ _ _ h => h) (Or.inl ⟨rfl, ?_⟩) hHeld ?_
          rotate_left
          · intro w' hS; obtain ⟨s0, s1⟩ := hS; go_simp <;> with_reducible rfl
          simp only [Act.put, List.getElem_toArray, List.getElem_cons_succ, List.getElem_cons_zero, List.setIfInBounds_toArray, List.set_cons_succ, List.set_cons_zero]
          refine wpAnyH_take (i := 9) (v := ?_) rfl (by kernel_rfl) (by kernel_rfl) (by kernel_rfl) (fun _ _ _ h => h) (Or.inl ⟨rfl, ?_⟩) hHeld ?_
          rotate_left
          · intro w' hS; obtain ⟨s0, s1⟩ := hS; go_simp <;> with_reducible rfl
          simp only [Act.put, List.getElem_toArray, List.getElem_cons_succ, List.getElem_cons_zero, List.setIfInBounds_toArray, List.set_cons_succ, List.set_cons_zero]
          refine wpAnyH_take (i := 10) (v := ?_) rfl (by kernel_rfl) (by kernel_rfl) (by kernel_rfl) (fun _ _ _ h => h) (Or.inl ⟨rfl, ?_⟩) hHeld ?_
          rotate_left
          · intro w' hS; obtain ⟨s0, s1⟩ := hS; go_simp <;> with_reducible rfl
          simp only [Act.put, List.getElem_toArray, List.getElem_cons_succ, List.getElem_cons_zero, List.setIfInBounds_toArray, List.set_cons_succ, List.set_cons_zero]
          refine wpAnyH_take (i := 13) (v := ?_) rfl (by kernel_rfl) (by kernel_rfl) (by kernel_rfl) (fun _ _ _ h => h) (Or.inl ⟨rfl, ?_⟩) hHeld ?_
          rotate_left
          · intro w' hS; obtain ⟨s0, s1⟩ := hS; go_simp <;> with_reducible rfl
          simp only [Act.put, List.getElem_toArray, List.getElem_cons_succ, List.getElem_cons_zero, List.setIfInBounds_toArray, List.set_cons_succ, List.set_cons_zero]
          refine wpAnyH_take (i := 14) (v := ?_) rfl (by kernel_rfl) (by kernel_rfl) (by kernel_rfl) (fun _ _ _ h => h) (Or.inl ⟨rfl, ?_⟩) hHeld ?_
          rotate_left
          · intro w' hS; obtain ⟨s0, s1⟩ := hS; go_simp <;> with_reducible rfl
          simp only [Act.put, List.getElem_toArray, List.getElem_cons_succ, List.getElem_cons_zero, List.setIfInBounds_toArray, List.set_cons_succ, List.set_cons_zero]
          refine wpAnyH_ready (rs := [11]) (by kernel_rfl) (by simp) (AllReadyH.cons rfl (fun K hK => ?_) AllReadyH.nil)
          go_simp
          refine (cuList_any g _ hg8).mono ?_
          rintro e w1 ⟨E, r, rfl, -, hb⟩
          replace ht := below_then ht hb ht.size
          replace hc := hc.below hb
          clear hb
          refine hK.out _ _ (box1_of hc) (fun hHeld => ?_)
          clear hK K
          try simp only [Act.put, List.getElem_toArray, List.getElem_cons_succ, List.getElem_cons_zero, List.setIfInBounds_toArray, List.set_cons_succ, List.set_cons_zero]
          refine wpAnyH_take (i := 12) (v := ?_) rfl (by kernel_rfl) (by kernel_rfl) (by kernel_rfl) (fun _ _ _ h => h) (Or.inl ⟨rfl, ?_⟩) hHeld ?_
          rotate_left
          · intro w' hS; obtain ⟨s0, s1⟩ := hS; go_simp <;> with_reducible rfl
          simp only [Act.put, List.getElem_toArray, List.getElem_cons_succ, List.getElem_cons_zero, List.setIfInBounds_toArray, List.set_cons_succ, List.set_cons_zero]
          refine wpAnyH_take (i := 15) (v := ?_) rfl (by kernel_rfl) (by kernel_rfl) (by kernel_rfl) (fun _ _ _ h => h) (Or.inl ⟨rfl, ?_⟩) hHeld ?_
          rotate_left
          · intro w' hS; obtain ⟨s0, s1⟩ := hS; go_simp <;> with_reducible rfl
          simp only [Act.put, List.getElem_toArray, List.getElem_cons_succ, List.getElem_cons_zero, List.setIfInBounds_toArray, List.set_cons_succ, List.set_cons_zero]
          refine wpAnyH_take (i := 16) (v := ?_) rfl (by kernel_rfl) (by kernel_rfl) (by kernel_rfl) (fun _ _ _ h => h) (Or.inl ⟨rfl, ?_⟩) hHeld ?_
          rotate_left
          · intro w' hS; obtain ⟨s0, s1⟩ := hS; go_simp <;> with_reducible rfl
          simp only [Act.put, List.getElem_toArray, List.getElem_cons_succ, List.getElem_cons_zero, List.setIfInBounds_toArray, List.set_cons_succ, List.set_cons_zero]
          refine wpAnyH_take (i := 17) (v := ?_) rfl (by kernel_rfl) (by kernel_rfl) (by kernel_rfl) (fun _ _ _ h => h) (Or.inl ⟨rfl, ?_⟩) hHeld ?_
          rotate_left
          · intro w' hS; obtain ⟨s0, s1⟩ := hS; go_simp <;> with_reducible rfl
          simp only [Act.put, List.getElem_toArray, List.getElem_cons_succ, List.getElem_cons_zero, List.setIfInBounds_toArray, List.set_cons_succ, List.set_cons_zero]
          refine wpAnyH_take (i := 18) (v := ?_) rfl (by kernel_rfl) (by kernel_rfl) (by kernel_rfl) (fun _ _ _ h => h) (Or.inl ⟨rfl, ?_⟩) hHeld ?_
          rotate_left
          · intro w' hS; obtain ⟨s0, s1⟩ := hS; go_simp <;> with_reducible rfl
          simp only [Act.put, List.getElem_toArray, List.getElem_cons_succ, List.getElem_cons_zero, List.setIfInBounds_toArray, List.set_cons_succ, List.set_cons_zero]
          refine wpAnyH_take (i := 19) (v := ?_) rfl (by kernel_rfl) (by kernel_rfl) (by kernel_rfl) (fun _ _ _ h => h) (Or.inl ⟨rfl, ?_⟩) hHeld ?_
          rotate_left
          · intro w' hS; obtain ⟨s0, s1⟩ := hS; go_simp <;> with_reducible rfl
          simp only [Act.put, List.getElem_toArray, List.getElem_cons_succ, List.getElem_cons_zero, List.setIfInBounds_toArray, List.set_cons_succ, List.set_cons_zero]
          refine wpAnyH_take (i := 20) (v := ?_) rfl (by kernel_rfl) (by kernel_rfl) (by kernel_rfl) (fun _ _ _ h => h) (Or.inl ⟨rfl, ?_⟩) hHeld ?_
          rotate_left
          · intro w' hS; obtain ⟨s0, s1⟩ := hS; go_simp <;> with_reducible rfl
          simp only [Act.put, List.getElem_toArray, List.getElem_cons_succ, List.getElem_cons_zero, List.setIfInBounds_toArray, List.set_cons_succ, List.set_cons_zero]
          refine wpAnyH_ready (rs := [21]) (by kernel_rfl) (by simp) (AllReadyH.cons rfl (fun K hK => ?_) AllReadyH.nil)
          go_simp
          refine (cuCalm_any k g _ hk).mono ?_
          rintro e w2 ⟨rfl, rfl⟩
          rw [HCA.out]
          refine hK.out _ _ (box1_of hc) (fun hHeld => ?_)
          clear hK K
          try simp only [Act.put, List.getElem_toArray, List.getElem_cons_succ, List.getElem_cons_zero, List.setIfInBounds_toArray, List.set_cons_succ, List.set_cons_zero]
          refine wpAnyH_take (i := 22) (v := ?_) rfl (by kernel_rfl) (by kernel_rfl) (by kernel_rfl) (fun _ _ _ h => h) (Or.inl ⟨rfl, ?_⟩) hHeld ?_
          rotate_left
          · intro w' hS; obtain ⟨s0, s1⟩ := hS; go_simp <;> with_reducible rfl
          simp only [Act.put, List.getElem_toArray, List.getElem_cons_succ, List.getElem_cons_zero, List.setIfInBounds_toArray, List.set_cons_succ, List.set_cons_zero]
          refine wpAnyH_take (i := 23) (v := ?_) rfl (by kernel_rfl) (by kernel_rfl) (by kernel_rfl) (fun _ _ _ h => h) (Or.inl ⟨rfl, ?_⟩) hHeld ?_
          rotate_left
          · intro w' hS; obtain ⟨s0, s1⟩ := hS; go_simp <;> with_reducible rfl
          simp only [Act.put, List.getElem_toArray, List.getElem_cons_succ, List.getElem_cons_zero, List.setIfInBounds_toArray, List.set_cons_succ, List.set_cons_zero]
          refine wpAnyH_done (by kernel_rfl) ?_ _
          clear hHeld
          obtain ⟨c0, c1⟩ : Box1 w.heap.size (.int .i64 k) (.int .i64 q) _ := box1_of hc
          go_wp2_with fail
          rw [HXX.out]
          refine (cuQuiet_any k _ q _ hk HYL.out).mono ?_
          rintro e w5 ⟨rfl, hb⟩
          have ht5 := below_then ht hb ht.size
          go_wp2
          go_ret
          exact ⟨ret_of (by rw [HP.out]; rfl), ht5⟩
    · have hne : (Go.bits .and .i64 (g : Int) (H : Int) != (g : Int)) = true := by rw [bits_and_nat _ _ (by omega) (by omega)]; simp; omega
      have HP := Lib.hid (can_no1 (k := k) (q := q) (x := x) (g := g) (by rw [← HH.out]; exact h1))
      clear h1
      go_wp2_with fail
      refine wp_region_held_drew (S := (Box1 w.heap.size (.int .i64 k) (.int .i64 q))) (by kernel_rfl) (box1_of hc.drew) (fun hHeld => ?_)
      replace ht := ht.drew
      replace hc := hc.drew
      refine wpAnyH_take (i := 0) (v := ?_) rfl (by kernel_rfl) (by kernel_rfl) (by kernel_rfl) (fun _ _ _ h => h) (Or.inl ⟨rfl, ?_⟩) hHeld ?_
      rotate_left
      · intro w' hS; obtain ⟨s0, s1⟩ := hS; go_simp <;> with_reducible rfl
      simp only [Act.put, List.getElem_toArray, List.getElem_cons_succ, List.getElem_cons_zero, List.setIfInBounds_toArray, List.set_cons_succ, List.set_cons_zero]
      refine wpAnyH_take (i := 1) (v := ?_) rfl (by kernel_rfl) (by kernel_rfl) (by kernel_rfl) (fun _ _ _ h => h) (Or.inl ⟨rfl, ?_⟩) hHeld ?_
      rotate_left
      · intro w' hS; obtain ⟨s0, s1⟩ := hS; go_simp <;> with_reducible rfl
      simp only [Act.put, List.getElem_toArray, List.getElem_cons_succ, List.getElem_cons_zero, List.setIfInBounds_toArray, List.set_cons_succ, List.set_cons_zero]
      refine wpAnyH_take (i := 2) (v := ?_) rfl (by kernel_rfl) (by kernel_rfl) (by kernel_rfl) (fun _ _ _ h => h) (Or.inl ⟨rfl, ?_⟩) hHeld ?_
      rotate_left
      · intro w' hS; obtain ⟨s0, s1⟩ := hS; go_simp <;> with_reducible rfl
      simp only [Act.put, List.getElem_toArray, List.getElem_cons_succ, List.getElem_cons_zero, List.setIfInBounds_toArray, List.set_cons_succ, List.set_cons_zero]
      refine wpAnyH_take (i := 3) (v := ?_) rfl (by kernel_rfl) (by kernel_rfl) (by kernel_rfl) (fun _ _ _ h => h) (Or.inl ⟨rfl, ?_⟩) hHeld ?_
      rotate_left
      · intro w' hS; obtain ⟨s0, s1⟩ := hS; go_simp <;> with_reducible rfl
      simp only [Act.put, List.getElem_toArray, List.getElem_cons_succ, List.getElem_cons_zero, List.setIfInBounds_toArray, List.set_cons_succ, List.set_cons_zero]
      refine wpAnyH_take (i := 4) (v := ?_) rfl (by kernel_rfl) (by kernel_rfl) (by kernel_rfl) (fun _ _ _ h => h) (Or.inl ⟨rfl, ?_⟩) hHeld ?_
      rotate_left
      · intro w' hS; obtain ⟨s0, s1⟩ := hS; go_simp <;> with_reducible rfl
      simp only [Act.put, List.getElem_toArray, List.getElem_cons_succ, List.getElem_cons_zero, List.setIfInBounds_toArray, List.set_cons_succ, List.set_cons_zero]
      refine wpAnyH_take (i := 5) (v := ?_) rfl (by kernel_rfl) (by kernel_rfl) (by kernel_rfl) (fun _ _ _ h => h) (Or.inl ⟨rfl, ?_⟩) hHeld ?_
      rotate_left
      · intro w' hS; obtain ⟨s0, s1⟩ := hS; go_simp <;> with_reducible rfl
      simp only [Act.put, List.getElem_toArray, List.getElem_cons_succ, List.getElem_cons_zero, List.setIfInBounds_toArray, List.set_cons_succ, List.set_cons_zero]
      refine wpAnyH_take (i := 6) (v := ?_) rfl (by kernel_rfl) (by kernel_rfl) (by kernel_rfl) (fun _ _ _ h => h) (Or.inl ⟨rfl, ?_⟩) hHeld ?_
      rotate_left
      · intro w' hS; obtain ⟨s0, s1⟩ := hS; go_simp <;> with_reducible rfl
      simp only [Act.put, List.getElem_toArray, List.getElem_cons_succ, List.getElem_cons_zero, List.setIfInBounds_toArray, List.set_cons_succ, List.set_cons_zero]
      refine wpAnyH_take (i := 7) (v := ?_) rfl (by kernel_rfl) (by kernel_rfl) (by kernel_rfl) (fun _ _ _ h => h) (Or.inl ⟨rfl, ?_⟩) hHeld ?_
      rotate_left
      · intro w' hS; obtain ⟨s0, s1⟩ := hS; go_simp <;> with_reducible rfl
      simp only [Act.put, List.getElem_toArray, List.getElem_cons_succ, List.getElem_cons_zero, List.setIfInBounds_toArray, List.set_cons_succ, List.set_cons_zero]
      refine wpAnyH_take (i := 8) (v := ?_) rfl (by kernel_rfl) (by kernel_rfl) (by kernel_rfl) (fun _ _ _ h => h) (Or.inl ⟨rfl, ?_⟩) hHeld ?_
      rotate_left
      · intro w' hS; obtain ⟨s0, s1⟩ := hS; go_simp <;> with_reducible rfl
      simp only [Act.put, List.getElem_toArray, List.getElem_cons_succ, List.getElem_cons_zero, List.setIfInBounds_toArray, List.set_cons_succ, List.set_cons_zero]
      refine wpAnyH_take (i := 9) (v := ?_) rfl (by kernel_rfl) (by kernel_rfl) (by kernel_rfl) (fun _ _ _ h => h) (Or.inl ⟨rfl, ?_⟩) hHeld ?_
      rotate_left
      · intro w' hS; obtain ⟨s0, s1⟩ := hS; go_simp <;> with_reducible rfl
      simp only [Act.put, List.getElem_toArray, List.getElem_cons_succ, List.getElem_cons_zero, List.setIfInBounds_toArray, List.set_cons_succ, List.set_cons_zero]
      refine wpAnyH_take (i := 10) (v := undef) rfl (by kernel_rfl) (by kernel_rfl) (by kernel_rfl) (fun _ _ _ h => h) (Or.inr ⟨by simp [Region.wanted, yielded], rfl⟩) hHeld ?_
      simp only [Act.put, List.getElem_toArray, List.getElem_cons_succ, List.getElem_cons_zero, List.setIfInBounds_toArray, List.set_cons_succ, List.set_cons_zero]
      refine wpAnyH_take (i := 11) (v := undef) rfl (by kernel_rfl) (by kernel_rfl) (by kernel_rfl) (fun _ _ _ h => h) (Or.inr ⟨by simp [Region.wanted, yielded], rfl⟩) hHeld ?_
      simp only [Act.put, List.getElem_toArray, List.getElem_cons_succ, List.getElem_cons_zero, List.setIfInBounds_toArray, List.set_cons_succ, List.set_cons_zero]
      refine wpAnyH_take (i := 12) (v := undef) rfl (by kernel_rfl) (by kernel_rfl) (by kernel_rfl) (fun _ _ _ h => h) (Or.inr ⟨by simp [Region.wanted, yielded], rfl⟩) hHeld ?_
      simp only [Act.put, List.getElem_toArray, List.getElem_cons_succ, List.getElem_cons_zero, List.setIfInBounds_toArray, List.set_cons_succ, List.set_cons_zero]
      refine wpAnyH_take (i := 13) (v := undef) rfl (by kernel_rfl) (by kernel_rfl) (by kernel_rfl) (fun _ _ _ h => h) (Or.inr ⟨by simp [Region.wanted, yielded], rfl⟩) hHeld ?_
      simp only [Act.put, List.getElem_toArray, List.getElem_cons_succ, List.getElem_cons_zero, List.setIfInBounds_toArray, List.set_cons_succ, List.set_cons_zero]
      refine wpAnyH_take (i := 14) (v := undef) rfl (by kernel_rfl) (by kernel_rfl) (by kernel_rfl) (fun _ _ _ h => h) (Or.inr ⟨by simp [Region.wanted, yielded], rfl⟩) hHeld ?_
      simp only [Act.put, List.getElem_toArray, List.getElem_cons_succ, List.getElem_cons_zero, List.setIfInBounds_toArray, List.set_cons_succ, List.set_cons_zero]
      refine wpAnyH_take (i := 15) (v := undef) rfl (by kernel_rfl) (by kernel_rfl) (by kernel_rfl) (fun _ _ _ h => h) (Or.inr ⟨by simp [Region.wanted, yielded], rfl⟩) hHeld ?_
      simp only [Act.put, List.getElem_toArray, List.getElem_cons_succ, List.getElem_cons_zero, List.setIfInBounds_toArray, List.set_cons_succ, List.set_cons_zero]
      refine wpAnyH_take (i := 16) (v := ?_) rfl (by kernel_rfl) (by kernel_rfl) (by kernel_rfl) (fun _ _ _ h => h) (Or.inl ⟨rfl, ?_⟩) hHeld ?_
      rotate_left
      · intro w' hS; obtain ⟨s0, s1⟩ := hS; go_simp <;> with_reducible rfl
      simp only [Act.put, List.getElem_toArray, List.getElem_cons_succ, List.getElem_cons_zero, List.setIfInBounds_toArray, List.set_cons_succ, List.set_cons_zero]
      refine wpAnyH_take (i := 17) (v := ?_) rfl (by kernel_rfl) (by kernel_rfl) (by kernel_rfl) (fun _ _ _ h => h) (Or.inl ⟨rfl, ?_⟩) hHeld ?_
      rotate_left
      · intro w' hS; obtain ⟨s0, s1⟩ := hS; go_simp <;> with_reducible rfl
      simp only [Act.put, List.getElem_toArray, List.getElem_cons_succ, List.getElem_cons_zero, List.setIfInBounds_toArray, List.set_cons_succ, List.set_cons_zero]
      refine wpAnyH_take (i := 18) (v := undef) rfl (by kernel_rfl) (by kernel_rfl) (by kernel_rfl) (fun _ _ _ h => h) (Or.inr ⟨by simp [Region.wanted, yielded], rfl⟩) hHeld ?_
      simp only [Act.put, List.getElem_toArray, List.getElem_cons_succ, List.getElem_cons_zero, List.setIfInBounds_toArray, List.set_cons_succ, List.set_cons_zero]
      refine wpAnyH_take (i := 19) (v := undef) rfl (by kernel_rfl) (by kernel_rfl) (by kernel_rfl) (fun _ _ _ h => h) (Or.inr ⟨by simp [Region.wanted, yielded], rfl⟩) hHeld ?_
      simp only [Act.put, List.getElem_toArray, List.getElem_cons_succ, List.getElem_cons_zero, List.setIfInBounds_toArray, List.set_cons_succ, List.set_cons_zero]
      refine wpAnyH_take (i := 20) (v := undef) rfl (by kernel_rfl) (by kernel_rfl) (by kernel_rfl) (fun _ _ _ h => h) (Or.inr ⟨by simp [Region.wanted, yielded], rfl⟩) hHeld ?_
      simp only [Act.put, List.getElem_toArray, List.getElem_cons_succ, List.getElem_cons_zero, List.setIfInBounds_toArray, List.set_cons_succ, List.set_cons_zero]
      refine wpAnyH_take (i := 21) (v := undef) rfl (by kernel_rfl) (by kernel_rfl) (by kernel_rfl) (fun _ _ _ h => h) (Or.inr ⟨by simp [Region.wanted, yielded], rfl⟩) hHeld ?_
      simp only [Act.put, List.getElem_toArray, List.getElem_cons_succ, List.getElem_cons_zero, List.setIfInBounds_toArray, List.set_cons_succ, List.set_cons_zero]
      refine wpAnyH_take (i := 22) (v := undef) rfl (by kernel_rfl) (by kernel_rfl) (by kernel_rfl) (fun _ _ _ h => h) (Or.inr ⟨by simp [Region.wanted, yielded], rfl⟩) hHeld ?_
      simp only [Act.put, List.getElem_toArray, List.getElem_cons_succ, List.getElem_cons_zero, List.setIfInBounds_toArray, List.set_cons_succ, List.set_cons_zero]
      refine wpAnyH_take (i := 23) (v := ?_) rfl (by kernel_rfl) (by kernel_rfl) (by kernel_rfl) (fun _ _ _ h => h) (Or.inl ⟨rfl, ?_⟩) hHeld ?_
      rotate_left
      · intro w' hS; obtain ⟨s0, s1⟩ := hS; go_simp <;> with_reducible rfl
      simp only [Act.put, List.getElem_toArray, List.getElem_cons_succ, List.getElem_cons_zero, List.setIfInBounds_toArray, List.set_cons_succ, List.set_cons_zero]
      refine wpAnyH_done (by kernel_rfl) ?_ _
      clear hHeld
      go_wp2
      go_ret
      exact ⟨ret_of (by rw [HP.out]; rfl), ht⟩

end Go.Proofs.Ytoedcieofjcgkaa

namespace Go.Proofs.Ytoedcieofjcgkaa
open Go.RowKit

/-- A row, told as a list. -/
noncomputable def tripM (k : Nat) (q : Int) (x : Nat) (l : List Int) : Bool := within l.length 1 q && (rising l (2 * k - 1) && canM k q x (maskOf l))
theorem tripM_no1 {k : Nat} {q : Int} {x : Nat} {l : List Int} (h : within l.length 1 q = false) : tripM k q x l = false := by simp [tripM, h]
theorem tripM_no2 {k : Nat} {q : Int} {x : Nat} {l : List Int} (h : rising l (2 * k - 1) = false) : tripM k q x l = false := by simp [tripM, h]
theorem tripM_on {k : Nat} {q : Int} {x : Nat} {l : List Int} (h : within l.length 1 q = true) (h2 : rising l (2 * k - 1) = true) : tripM k q x l = canM k q x (maskOf l) := by simp [tripM, h, h2]
theorem mask_pos {l : List Int} {hi : Int} (hs : StepsTo l hi l.length) (h0 : 0 < l.length) : 1 ≤ maskOf l := by
  by_cases hm : maskOf l = 0
  · have h1 := mask_bit l (fun x hx => (mem_steps hs hx).1) (l[0]).toNat
    rw [hm] at h1
    have h2 : has l (l[0]).toNat = true := has_iff.2 (by rw [Int.toNat_of_nonneg (mem_steps hs (List.getElem_mem h0)).1]; exact List.getElem_mem h0)
    rw [h2] at h1
    simp [bitAt] at h1
  · omega

set_option maxHeartbeats 12800000 in
set_option maxRecDepth 100000 in
set_option linter.unusedSimpArgs false in
theorem cuTrip_any (k : Nat) (q : Int) (x : Nat) (D : Option Addr) (n d : Nat) (l : List Int) (w : World) (hk : k ≤ 4) (hx : x / 2 < 2 ^ (2 * k)) (hD : Holds w D (nums l)) (hl : l.length = n) (hn : n ≤ 9223372036854775807) :
    Calls Try.prog 107 #[.agg #[.int .i64 k, .int .i64 q], .int .i64 x, .slice D n d] w fun e w' => e = .returned (.bool (tripM k q x l)) ∧ Below w.heap.size w w' := by
  have hc := Whole.fresh w 28 #[.int .i64 k, .int .i64 q]
  have ht := below1 w (.cells #[.int .i64 k, .int .i64 q] 28)
  have hD2 := hD.alloc (.cells #[.int .i64 k, .int .i64 q] 28)
  have HX := Lib.hid hl
  have HXL := Lib.hid hx
  have hw2 : IntKind.i64.wrap (2 * (k : Int)) = 2 * (k : Int) := IntWalk.i64_in _ (by omega)
  have hw3 : IntKind.i64.wrap (2 * (k : Int) - 1) = 2 * (k : Int) - 1 := IntWalk.i64_in _ (by omega)
  rw [← hl] at hn ⊢
  obtain rfl : l.length = n := hl
  cases h1 : within l.length 1 q
  · have HP := Lib.hid (tripM_no1 (k := k) (x := x) h1)
    have HW1 := Lib.hid h1
    clear h1 hx hD
    go_enter Try.func107, Try.ntmps107
    go_wp2_with fail
    refine wp_region_held_drew (S := (Box1 w.heap.size (.int .i64 k) (.int .i64 q))) (by kernel_rfl) (box1_of hc.drew) (fun hHeld => ?_)
    replace ht := ht.drew
    replace hc := hc.drew
    replace hD2 := hD2.drew
    refine wpAnyH_take (i := 0) (v := ?_) rfl (by kernel_rfl) (by kernel_rfl) (by kernel_rfl) (fun _ _ _ h => h) (Or.inl ⟨rfl, ?_⟩) hHeld ?_
    rotate_left
    · intro w' hS; obtain ⟨s0, s1⟩ := hS; go_simp <;> with_reducible rfl
    simp only [Act.put, List.getElem_toArray, List.getElem_cons_succ, List.getElem_cons_zero, List.setIfInBounds_toArray, List.set_cons_succ, List.set_cons_zero]
    refine wpAnyH_take (i := 1) (v := ?_) rfl (by kernel_rfl) (by kernel_rfl) (by kernel_rfl) (fun _ _ _ h => h) (Or.inl ⟨rfl, ?_⟩) hHeld ?_
    rotate_left
    · intro w' hS; obtain ⟨s0, s1⟩ := hS; go_simp <;> with_reducible rfl
    simp only [Act.put, List.getElem_toArray, List.getElem_cons_succ, List.getElem_cons_zero, List.setIfInBounds_toArray, List.set_cons_succ, List.set_cons_zero]
    refine wpAnyH_take (i := 2) (v := ?_) rfl (by kernel_rfl) (by kernel_rfl) (by kernel_rfl) (fun _ _ _ h => h) (Or.inl ⟨rfl, ?_⟩) hHeld ?_
    rotate_left
    · intro w' hS; obtain ⟨s0, s1⟩ := hS; go_simp <;> with_reducible rfl
    simp only [Act.put, List.getElem_toArray, List.getElem_cons_succ, List.getElem_cons_zero, List.setIfInBounds_toArray, List.set_cons_succ, List.set_cons_zero]
    refine wpAnyH_take (i := 3) (v := ?_) rfl (by kernel_rfl) (by kernel_rfl) (by kernel_rfl) (fun _ _ _ h => h) (Or.inl ⟨rfl, ?_⟩) hHeld ?_
    rotate_left
    · intro w' hS; obtain ⟨s0, s1⟩ := hS; go_simp <;> with_reducible rfl
    simp only [Act.put, List.getElem_toArray, List.getElem_cons_succ, List.getElem_cons_zero, List.setIfInBounds_toArray, List.set_cons_succ, List.set_cons_zero]
    refine wpAnyH_ready (rs := [4]) (by kernel_rfl) (by simp) (AllReadyH.cons rfl (fun K hK => ?_) AllReadyH.nil)
    go_simp
    refine (l1In_any _ _ _ _).mono ?_
    rintro e w1 ⟨rfl, rfl⟩
    rw [HW1.out]
    refine hK.out _ _ (box1_of hc) (fun hHeld => ?_)
    clear hK K
    try simp only [Act.put, List.getElem_toArray, List.getElem_cons_succ, List.getElem_cons_zero, List.setIfInBounds_toArray, List.set_cons_succ, List.set_cons_zero]
    refine wpAnyH_take (i := 5) (v := ?_) rfl (by kernel_rfl) (by kernel_rfl) (by kernel_rfl) (fun _ _ _ h => h) (Or.inl ⟨rfl, ?_⟩) hHeld ?_
    rotate_left
    · intro w' hS; obtain ⟨s0, s1⟩ := hS; go_simp <;> with_reducible rfl
    simp only [Act.put, List.getElem_toArray, List.getElem_cons_succ, List.getElem_cons_zero, List.setIfInBounds_toArray, List.set_cons_succ, List.set_cons_zero]
    refine wpAnyH_take (i := 6) (v := undef) rfl (by kernel_rfl) (by kernel_rfl) (by kernel_rfl) (fun _ _ _ h => h) (Or.inr ⟨by simp [Region.wanted, yielded], rfl⟩) hHeld ?_
    simp only [Act.put, List.getElem_toArray, List.getElem_cons_succ, List.getElem_cons_zero, List.setIfInBounds_toArray, List.set_cons_succ, List.set_cons_zero]
    refine wpAnyH_take (i := 7) (v := undef) rfl (by kernel_rfl) (by kernel_rfl) (by kernel_rfl) (fun _ _ _ h => h) (Or.inr ⟨by simp [Region.wanted, yielded], rfl⟩) hHeld ?_
    simp only [Act.put, List.getElem_toArray, List.getElem_cons_succ, List.getElem_cons_zero, List.setIfInBounds_toArray, List.set_cons_succ, List.set_cons_zero]
    refine wpAnyH_take (i := 8) (v := undef) rfl (by kernel_rfl) (by kernel_rfl) (by kernel_rfl) (fun _ _ _ h => h) (Or.inr ⟨by simp [Region.wanted, yielded], rfl⟩) hHeld ?_
    simp only [Act.put, List.getElem_toArray, List.getElem_cons_succ, List.getElem_cons_zero, List.setIfInBounds_toArray, List.set_cons_succ, List.set_cons_zero]
    refine wpAnyH_take (i := 9) (v := undef) rfl (by kernel_rfl) (by kernel_rfl) (by kernel_rfl) (fun _ _ _ h => h) (Or.inr ⟨by simp [Region.wanted, yielded], rfl⟩) hHeld ?_
    simp only [Act.put, List.getElem_toArray, List.getElem_cons_succ, List.getElem_cons_zero, List.setIfInBounds_toArray, List.set_cons_succ, List.set_cons_zero]
    refine wpAnyH_take (i := 10) (v := undef) rfl (by kernel_rfl) (by kernel_rfl) (by kernel_rfl) (fun _ _ _ h => h) (Or.inr ⟨by simp [Region.wanted, yielded], rfl⟩) hHeld ?_
    simp only [Act.put, List.getElem_toArray, List.getElem_cons_succ, List.getElem_cons_zero, List.setIfInBounds_toArray, List.set_cons_succ, List.set_cons_zero]
    refine wpAnyH_take (i := 11) (v := undef) rfl (by kernel_rfl) (by kernel_rfl) (by kernel_rfl) (fun _ _ _ h => h) (Or.inr ⟨by simp [Region.wanted, yielded], rfl⟩) hHeld ?_
    simp only [Act.put, List.getElem_toArray, List.getElem_cons_succ, List.getElem_cons_zero, List.setIfInBounds_toArray, List.set_cons_succ, List.set_cons_zero]
    refine wpAnyH_take (i := 12) (v := ?_) rfl (by kernel_rfl) (by kernel_rfl) (by kernel_rfl) (fun _ _ _ h => h) (Or.inl ⟨rfl, ?_⟩) hHeld ?_
    rotate_left
    · intro w' hS; obtain ⟨s0, s1⟩ := hS; go_simp <;> with_reducible rfl
    simp only [Act.put, List.getElem_toArray, List.getElem_cons_succ, List.getElem_cons_zero, List.setIfInBounds_toArray, List.set_cons_succ, List.set_cons_zero]
    refine wpAnyH_take (i := 13) (v := ?_) rfl (by kernel_rfl) (by kernel_rfl) (by kernel_rfl) (fun _ _ _ h => h) (Or.inl ⟨rfl, ?_⟩) hHeld ?_
    rotate_left
    · intro w' hS; obtain ⟨s0, s1⟩ := hS; go_simp <;> with_reducible rfl
    simp only [Act.put, List.getElem_toArray, List.getElem_cons_succ, List.getElem_cons_zero, List.setIfInBounds_toArray, List.set_cons_succ, List.set_cons_zero]
    refine wpAnyH_take (i := 14) (v := undef) rfl (by kernel_rfl) (by kernel_rfl) (by kernel_rfl) (fun _ _ _ h => h) (Or.inr ⟨by simp [Region.wanted, yielded], rfl⟩) hHeld ?_
    simp only [Act.put, List.getElem_toArray, List.getElem_cons_succ, List.getElem_cons_zero, List.setIfInBounds_toArray, List.set_cons_succ, List.set_cons_zero]
    refine wpAnyH_take (i := 15) (v := undef) rfl (by kernel_rfl) (by kernel_rfl) (by kernel_rfl) (fun _ _ _ h => h) (Or.inr ⟨by simp [Region.wanted, yielded], rfl⟩) hHeld ?_
    simp only [Act.put, List.getElem_toArray, List.getElem_cons_succ, List.getElem_cons_zero, List.setIfInBounds_toArray, List.set_cons_succ, List.set_cons_zero]
    refine wpAnyH_take (i := 16) (v := undef) rfl (by kernel_rfl) (by kernel_rfl) (by kernel_rfl) (fun _ _ _ h => h) (Or.inr ⟨by simp [Region.wanted, yielded], rfl⟩) hHeld ?_
    simp only [Act.put, List.getElem_toArray, List.getElem_cons_succ, List.getElem_cons_zero, List.setIfInBounds_toArray, List.set_cons_succ, List.set_cons_zero]
    refine wpAnyH_take (i := 17) (v := undef) rfl (by kernel_rfl) (by kernel_rfl) (by kernel_rfl) (fun _ _ _ h => h) (Or.inr ⟨by simp [Region.wanted, yielded], rfl⟩) hHeld ?_
    simp only [Act.put, List.getElem_toArray, List.getElem_cons_succ, List.getElem_cons_zero, List.setIfInBounds_toArray, List.set_cons_succ, List.set_cons_zero]
    refine wpAnyH_take (i := 18) (v := undef) rfl (by kernel_rfl) (by kernel_rfl) (by kernel_rfl) (fun _ _ _ h => h) (Or.inr ⟨by simp [Region.wanted, yielded], rfl⟩) hHeld ?_
    simp only [Act.put, List.getElem_toArray, List.getElem_cons_succ, List.getElem_cons_zero, List.setIfInBounds_toArray, List.set_cons_succ, List.set_cons_zero]
    refine wpAnyH_take (i := 19) (v := ?_) rfl (by kernel_rfl) (by kernel_rfl) (by kernel_rfl) (fun _ _ _ h => h) (Or.inl ⟨rfl, ?_⟩) hHeld ?_
    rotate_left
    · intro w' hS; obtain ⟨s0, s1⟩ := hS; go_simp <;> with_reducible rfl
    simp only [Act.put, List.getElem_toArray, List.getElem_cons_succ, List.getElem_cons_zero, List.setIfInBounds_toArray, List.set_cons_succ, List.set_cons_zero]
    refine wpAnyH_take (i := 20) (v := ?_) rfl (by kernel_rfl) (by kernel_rfl) (by kernel_rfl) (fun _ _ _ h => h) (Or.inl ⟨rfl, ?_⟩) hHeld ?_
    rotate_left
    · intro w' hS; obtain ⟨s0, s1⟩ := hS; go_simp <;> with_reducible rfl
    simp only [Act.put, List.getElem_toArray, List.getElem_cons_succ, List.getElem_cons_zero, List.setIfInBounds_toArray, List.set_cons_succ, List.set_cons_zero]
    refine wpAnyH_done (by kernel_rfl) ?_ _
    clear hHeld
    go_wp2
    go_ret
    exact ⟨ret_of (by rw [HP.out]; rfl), ht⟩
  · cases h2 : rising l (2 * k - 1)
    · have HP := Lib.hid (tripM_no2 (q := q) (x := x) h2)
      have HW1 := Lib.hid h1
      have HRI := Lib.hid h2
      clear h1 h2 hx hD
      go_enter Try.func107, Try.ntmps107
      go_wp2_with fail
      refine wp_region_held_drew (S := (Box1 w.heap.size (.int .i64 k) (.int .i64 q))) (by kernel_rfl) (box1_of hc.drew) (fun hHeld => ?_)
      replace ht := ht.drew
      replace hc := hc.drew
      replace hD2 := hD2.drew
      refine wpAnyH_take (i := 0) (v := ?_) rfl (by kernel_rfl) (by kernel_rfl) (by kernel_rfl) (fun _ _ _ h => h) (Or.inl ⟨rfl, ?_⟩) hHeld ?_
      rotate_left
      · intro w' hS; obtain ⟨s0, s1⟩ := hS; go_simp <;> with_reducible rfl
      simp only [Act.put, List.getElem_toArray, List.getElem_cons_succ, List.getElem_cons_zero, List.setIfInBounds_toArray, List.set_cons_succ, List.set_cons_zero]
      refine wpAnyH_take (i := 1) (v := ?_) rfl (by kernel_rfl) (by kernel_rfl) (by kernel_rfl) (fun _ _ _ h => h) (Or.inl ⟨rfl, ?_⟩) hHeld ?_
      rotate_left
      · intro w' hS; obtain ⟨s0, s1⟩ := hS; go_simp <;> with_reducible rfl
      simp only [Act.put, List.getElem_toArray, List.getElem_cons_succ, List.getElem_cons_zero, List.setIfInBounds_toArray, List.set_cons_succ, List.set_cons_zero]
      refine wpAnyH_take (i := 2) (v := ?_) rfl (by kernel_rfl) (by kernel_rfl) (by kernel_rfl) (fun _ _ _ h => h) (Or.inl ⟨rfl, ?_⟩) hHeld ?_
      rotate_left
      · intro w' hS; obtain ⟨s0, s1⟩ := hS; go_simp <;> with_reducible rfl
      simp only [Act.put, List.getElem_toArray, List.getElem_cons_succ, List.getElem_cons_zero, List.setIfInBounds_toArray, List.set_cons_succ, List.set_cons_zero]
      refine wpAnyH_take (i := 3) (v := ?_) rfl (by kernel_rfl) (by kernel_rfl) (by kernel_rfl) (fun _ _ _ h => h) (Or.inl ⟨rfl, ?_⟩) hHeld ?_
      rotate_left
      · intro w' hS; obtain ⟨s0, s1⟩ := hS; go_simp <;> with_reducible rfl
      simp only [Act.put, List.getElem_toArray, List.getElem_cons_succ, List.getElem_cons_zero, List.setIfInBounds_toArray, List.set_cons_succ, List.set_cons_zero]
      refine wpAnyH_ready (rs := [4]) (by kernel_rfl) (by simp) (AllReadyH.cons rfl (fun K hK => ?_) AllReadyH.nil)
      go_simp
      refine (l1In_any _ _ _ _).mono ?_
      rintro e w1 ⟨rfl, rfl⟩
      rw [HW1.out]
      refine hK.out _ _ (box1_of hc) (fun hHeld => ?_)
      clear hK K
      try simp only [Act.put, List.getElem_toArray, List.getElem_cons_succ, List.getElem_cons_zero, List.setIfInBounds_toArray, List.set_cons_succ, List.set_cons_zero]
      refine wpAnyH_take (i := 5) (v := ?_) rfl (by kernel_rfl) (by kernel_rfl) (by kernel_rfl) (fun _ _ _ h => h) (Or.inl ⟨rfl, ?_⟩) hHeld ?_
      rotate_left
      · intro w' hS; obtain ⟨s0, s1⟩ := hS; go_simp <;> with_reducible rfl
      simp only [Act.put, List.getElem_toArray, List.getElem_cons_succ, List.getElem_cons_zero, List.setIfInBounds_toArray, List.set_cons_succ, List.set_cons_zero]
      refine wpAnyH_take (i := 6) (v := ?_) rfl (by kernel_rfl) (by kernel_rfl) (by kernel_rfl) (fun _ _ _ h => h) (Or.inl ⟨rfl, ?_⟩) hHeld ?_
      rotate_left
      · intro w' hS; obtain ⟨s0, s1⟩ := hS; go_simp <;> with_reducible rfl
      simp only [Act.put, List.getElem_toArray, List.getElem_cons_succ, List.getElem_cons_zero, List.setIfInBounds_toArray, List.set_cons_succ, List.set_cons_zero]
      refine wpAnyH_take (i := 7) (v := ?_) rfl (by kernel_rfl) (by kernel_rfl) (by kernel_rfl) (fun _ _ _ h => h) (Or.inl ⟨rfl, ?_⟩) hHeld ?_
      rotate_left
      · intro w' hS; obtain ⟨s0, s1⟩ := hS; go_simp <;> with_reducible rfl
      simp only [Act.put, List.getElem_toArray, List.getElem_cons_succ, List.getElem_cons_zero, List.setIfInBounds_toArray, List.set_cons_succ, List.set_cons_zero]
      refine wpAnyH_take (i := 8) (v := ?_) rfl (by kernel_rfl) (by kernel_rfl) (by kernel_rfl) (fun _ _ _ h => h) (Or.inl ⟨rfl, ?_⟩) hHeld ?_
      rotate_left
      · intro w' hS; obtain ⟨s0, s1⟩ := hS; go_simp <;> with_reducible rfl
      simp only [Act.put, List.getElem_toArray, List.getElem_cons_succ, List.getElem_cons_zero, List.setIfInBounds_toArray, List.set_cons_succ, List.set_cons_zero]
      refine wpAnyH_take (i := 9) (v := ?_) rfl (by kernel_rfl) (by kernel_rfl) (by kernel_rfl) (fun _ _ _ h => h) (Or.inl ⟨rfl, ?_⟩) hHeld ?_
      rotate_left
      · intro w' hS; obtain ⟨s0, s1⟩ := hS; go_simp <;> with_reducible rfl
      simp only [Act.put, List.getElem_toArray, List.getElem_cons_succ, List.getElem_cons_zero, List.setIfInBounds_toArray, List.set_cons_succ, List.set_cons_zero]
      refine wpAnyH_take (i := 10) (v := ?_) rfl (by kernel_rfl) (by kernel_rfl) (by kernel_rfl) (fun _ _ _ h => h) (Or.inl ⟨rfl, ?_⟩) hHeld ?_
      rotate_left
      · intro w' hS; obtain ⟨s0, s1⟩ := hS; go_simp <;> with_reducible rfl
      simp only [Act.put, List.getElem_toArray, List.getElem_cons_succ, List.getElem_cons_zero, List.setIfInBounds_toArray, List.set_cons_succ, List.set_cons_zero]
      refine wpAnyH_ready (rs := [11]) (by kernel_rfl) (by simp) (AllReadyH.cons rfl (fun K hK => ?_) AllReadyH.nil)
      go_simp
      refine (l1Rising_any D l.length d l _ _ hD2 rfl hn).mono ?_
      rintro e w2 ⟨rfl, rfl⟩
      rw [HRI.out]
      refine hK.out _ _ (box1_of hc) (fun hHeld => ?_)
      clear hK K
      try simp only [Act.put, List.getElem_toArray, List.getElem_cons_succ, List.getElem_cons_zero, List.setIfInBounds_toArray, List.set_cons_succ, List.set_cons_zero]
      refine wpAnyH_take (i := 12) (v := ?_) rfl (by kernel_rfl) (by kernel_rfl) (by kernel_rfl) (fun _ _ _ h => h) (Or.inl ⟨rfl, ?_⟩) hHeld ?_
      rotate_left
      · intro w' hS; obtain ⟨s0, s1⟩ := hS; go_simp <;> with_reducible rfl
      simp only [Act.put, List.getElem_toArray, List.getElem_cons_succ, List.getElem_cons_zero, List.setIfInBounds_toArray, List.set_cons_succ, List.set_cons_zero]
      refine wpAnyH_take (i := 13) (v := ?_) rfl (by kernel_rfl) (by kernel_rfl) (by kernel_rfl) (fun _ _ _ h => h) (Or.inl ⟨rfl, ?_⟩) hHeld ?_
      rotate_left
      · intro w' hS; obtain ⟨s0, s1⟩ := hS; go_simp <;> with_reducible rfl
      simp only [Act.put, List.getElem_toArray, List.getElem_cons_succ, List.getElem_cons_zero, List.setIfInBounds_toArray, List.set_cons_succ, List.set_cons_zero]
      refine wpAnyH_take (i := 14) (v := undef) rfl (by kernel_rfl) (by kernel_rfl) (by kernel_rfl) (fun _ _ _ h => h) (Or.inr ⟨by simp [Region.wanted, yielded], rfl⟩) hHeld ?_
      simp only [Act.put, List.getElem_toArray, List.getElem_cons_succ, List.getElem_cons_zero, List.setIfInBounds_toArray, List.set_cons_succ, List.set_cons_zero]
      refine wpAnyH_take (i := 15) (v := undef) rfl (by kernel_rfl) (by kernel_rfl) (by kernel_rfl) (fun _ _ _ h => h) (Or.inr ⟨by simp [Region.wanted, yielded], rfl⟩) hHeld ?_
      simp only [Act.put, List.getElem_toArray, List.getElem_cons_succ, List.getElem_cons_zero, List.setIfInBounds_toArray, List.set_cons_succ, List.set_cons_zero]
      refine wpAnyH_take (i := 16) (v := undef) rfl (by kernel_rfl) (by kernel_rfl) (by kernel_rfl) (fun _ _ _ h => h) (Or.inr ⟨by simp [Region.wanted, yielded], rfl⟩) hHeld ?_
      simp only [Act.put, List.getElem_toArray, List.getElem_cons_succ, List.getElem_cons_zero, List.setIfInBounds_toArray, List.set_cons_succ, List.set_cons_zero]
      refine wpAnyH_take (i := 17) (v := undef) rfl (by kernel_rfl) (by kernel_rfl) (by kernel_rfl) (fun _ _ _ h => h) (Or.inr ⟨by simp [Region.wanted, yielded], rfl⟩) hHeld ?_
      simp only [Act.put, List.getElem_toArray, List.getElem_cons_succ, List.getElem_cons_zero, List.setIfInBounds_toArray, List.set_cons_succ, List.set_cons_zero]
      refine wpAnyH_take (i := 18) (v := undef) rfl (by kernel_rfl) (by kernel_rfl) (by kernel_rfl) (fun _ _ _ h => h) (Or.inr ⟨by simp [Region.wanted, yielded], rfl⟩) hHeld ?_
      simp only [Act.put, List.getElem_toArray, List.getElem_cons_succ, List.getElem_cons_zero, List.setIfInBounds_toArray, List.set_cons_succ, List.set_cons_zero]
      refine wpAnyH_take (i := 19) (v := ?_) rfl (by kernel_rfl) (by kernel_rfl) (by kernel_rfl) (fun _ _ _ h => h) (Or.inl ⟨rfl, ?_⟩) hHeld ?_
      rotate_left
      · intro w' hS; obtain ⟨s0, s1⟩ := hS; go_simp <;> with_reducible rfl
      simp only [Act.put, List.getElem_toArray, List.getElem_cons_succ, List.getElem_cons_zero, List.setIfInBounds_toArray, List.set_cons_succ, List.set_cons_zero]
      refine wpAnyH_take (i := 20) (v := ?_) rfl (by kernel_rfl) (by kernel_rfl) (by kernel_rfl) (fun _ _ _ h => h) (Or.inl ⟨rfl, ?_⟩) hHeld ?_
      rotate_left
      · intro w' hS; obtain ⟨s0, s1⟩ := hS; go_simp <;> with_reducible rfl
      simp only [Act.put, List.getElem_toArray, List.getElem_cons_succ, List.getElem_cons_zero, List.setIfInBounds_toArray, List.set_cons_succ, List.set_cons_zero]
      refine wpAnyH_done (by kernel_rfl) ?_ _
      clear hHeld
      go_wp2
      go_ret
      exact ⟨ret_of (by rw [HP.out]; rfl), ht⟩
    · have hst := rising_steps h2
      have hlen := (within_iff.1 h1).1
      have HP := Lib.hid (tripM_on (x := x) h1 h2)
      have HW1 := Lib.hid h1
      have HRI := Lib.hid h2
      have HST := Lib.hid hst
      have HM1 := Lib.hid (mask_pos hst (by omega))
      have HM2 := Lib.hid (mask_lt (n := 2 * k) (by have := steps_len hst (by omega); omega) l (fun x hx => by have := (mem_steps hst hx).2; omega))
      clear h1 h2 hx hD hst
      go_enter Try.func107, Try.ntmps107
      go_wp2_with fail
      refine wp_region_held_drew (S := (Box1 w.heap.size (.int .i64 k) (.int .i64 q))) (by kernel_rfl) (box1_of hc.drew) (fun hHeld => ?_)
      replace ht := ht.drew
      replace hc := hc.drew
      replace hD2 := hD2.drew
      refine wpAnyH_take (i := 0) (v := ?_) rfl (by kernel_rfl) (by kernel_rfl) (by kernel_rfl) (fun _ _ _ h => h) (Or.inl ⟨rfl, ?_⟩) hHeld ?_
      rotate_left
      · intro w' hS; obtain ⟨s0, s1⟩ := hS; go_simp <;> with_reducible rfl
      simp only [Act.put, List.getElem_toArray, List.getElem_cons_succ, List.getElem_cons_zero, List.setIfInBounds_toArray, List.set_cons_succ, List.set_cons_zero]
      refine wpAnyH_take (i := 1) (v := ?_) rfl (by kernel_rfl) (by kernel_rfl) (by kernel_rfl) (fun _ _ _ h => h) (Or.inl ⟨rfl, ?_⟩) hHeld ?_
      rotate_left
      · intro w' hS; obtain ⟨s0, s1⟩ := hS; go_simp <;> with_reducible rfl
      simp only [Act.put, List.getElem_toArray, List.getElem_cons_succ, List.getElem_cons_zero, List.setIfInBounds_toArray, List.set_cons_succ, List.set_cons_zero]
      refine wpAnyH_take (i := 2) (v := ?_) rfl (by kernel_rfl) (by kernel_rfl) (by kernel_rfl) (fun _ _ _ h => h) (Or.inl ⟨rfl, ?_⟩) hHeld ?_
      rotate_left
      · intro w' hS; obtain ⟨s0, s1⟩ := hS; go_simp <;> with_reducible rfl
      simp only [Act.put, List.getElem_toArray, List.getElem_cons_succ, List.getElem_cons_zero, List.setIfInBounds_toArray, List.set_cons_succ, List.set_cons_zero]
      refine wpAnyH_take (i := 3) (v := ?_) rfl (by kernel_rfl) (by kernel_rfl) (by kernel_rfl) (fun _ _ _ h => h) (Or.inl ⟨rfl, ?_⟩) hHeld ?_
      rotate_left
      · intro w' hS; obtain ⟨s0, s1⟩ := hS; go_simp <;> with_reducible rfl
      simp only [Act.put, List.getElem_toArray, List.getElem_cons_succ, List.getElem_cons_zero, List.setIfInBounds_toArray, List.set_cons_succ, List.set_cons_zero]
      refine wpAnyH_ready (rs := [4]) (by kernel_rfl) (by simp) (AllReadyH.cons rfl (fun K hK => ?_) AllReadyH.nil)
      go_simp
      refine (l1In_any _ _ _ _).mono ?_
      rintro e w1 ⟨rfl, rfl⟩
      rw [HW1.out]
      refine hK.out _ _ (box1_of hc) (fun hHeld => ?_)
      clear hK K
      try simp only [Act.put, List.getElem_toArray, List.getElem_cons_succ, List.getElem_cons_zero, List.setIfInBounds_toArray, List.set_cons_succ, List.set_cons_zero]
      refine wpAnyH_take (i := 5) (v := ?_) rfl (by kernel_rfl) (by kernel_rfl) (by kernel_rfl) (fun _ _ _ h => h) (Or.inl ⟨rfl, ?_⟩) hHeld ?_
      rotate_left
      · intro w' hS; obtain ⟨s0, s1⟩ := hS; go_simp <;> with_reducible rfl
      simp only [Act.put, List.getElem_toArray, List.getElem_cons_succ, List.getElem_cons_zero, List.setIfInBounds_toArray, List.set_cons_succ, List.set_cons_zero]
      refine wpAnyH_take (i := 6) (v := ?_) rfl (by kernel_rfl) (by kernel_rfl) (by kernel_rfl) (fun _ _ _ h => h) (Or.inl ⟨rfl, ?_⟩) hHeld ?_
      rotate_left
      · intro w' hS; obtain ⟨s0, s1⟩ := hS; go_simp <;> with_reducible rfl
      simp only [Act.put, List.getElem_toArray, List.getElem_cons_succ, List.getElem_cons_zero, List.setIfInBounds_toArray, List.set_cons_succ, List.set_cons_zero]
      refine wpAnyH_take (i := 7) (v := ?_) rfl (by kernel_rfl) (by kernel_rfl) (by kernel_rfl) (fun _ _ _ h => h) (Or.inl ⟨rfl, ?_⟩) hHeld ?_
      rotate_left
      · intro w' hS; obtain ⟨s0, s1⟩ := hS; go_simp <;> with_reducible rfl
      simp only [Act.put, List.getElem_toArray, List.getElem_cons_succ, List.getElem_cons_zero, List.setIfInBounds_toArray, List.set_cons_succ, List.set_cons_zero]
      refine wpAnyH_take (i := 8) (v := ?_) rfl (by kernel_rfl) (by kernel_rfl) (by kernel_rfl) (fun _ _ _ h => h) (Or.inl ⟨rfl, ?_⟩) hHeld ?_
      rotate_left
      · intro w' hS; obtain ⟨s0, s1⟩ := hS; go_simp <;> with_reducible rfl
      simp only [Act.put, List.getElem_toArray, List.getElem_cons_succ, List.getElem_cons_zero, List.setIfInBounds_toArray, List.set_cons_succ, List.set_cons_zero]
      refine wpAnyH_take (i := 9) (v := ?_) rfl (by kernel_rfl) (by kernel_rfl) (by kernel_rfl) (fun _ _ _ h => h) (Or.inl ⟨rfl, ?_⟩) hHeld ?_
      rotate_left
      · intro w' hS; obtain ⟨s0, s1⟩ := hS; go_simp <;> with_reducible rfl
      simp only [Act.put, List.getElem_toArray, List.getElem_cons_succ, List.getElem_cons_zero, List.setIfInBounds_toArray, List.set_cons_succ, List.set_cons_zero]
      refine wpAnyH_take (i := 10) (v := ?_) rfl (by kernel_rfl) (by kernel_rfl) (by kernel_rfl) (fun _ _ _ h => h) (Or.inl ⟨rfl, ?_⟩) hHeld ?_
      rotate_left
      · intro w' hS; obtain ⟨s0, s1⟩ := hS; go_simp <;> with_reducible rfl
      simp only [Act.put, List.getElem_toArray, List.getElem_cons_succ, List.getElem_cons_zero, List.setIfInBounds_toArray, List.set_cons_succ, List.set_cons_zero]
      refine wpAnyH_ready (rs := [11]) (by kernel_rfl) (by simp) (AllReadyH.cons rfl (fun K hK => ?_) AllReadyH.nil)
      go_simp
      refine (l1Rising_any D l.length d l _ _ hD2 rfl hn).mono ?_
      rintro e w2 ⟨rfl, rfl⟩
      rw [HRI.out]
      refine hK.out _ _ (box1_of hc) (fun hHeld => ?_)
      clear hK K
      try simp only [Act.put, List.getElem_toArray, List.getElem_cons_succ, List.getElem_cons_zero, List.setIfInBounds_toArray, List.set_cons_succ, List.set_cons_zero]
      refine wpAnyH_take (i := 12) (v := ?_) rfl (by kernel_rfl) (by kernel_rfl) (by kernel_rfl) (fun _ _ _ h => h) (Or.inl ⟨rfl, ?_⟩) hHeld ?_
      rotate_left
      · intro w' hS; obtain ⟨s0, s1⟩ := hS; go_simp <;> with_reducible rfl
      simp only [Act.put, List.getElem_toArray, List.getElem_cons_succ, List.getElem_cons_zero, List.setIfInBounds_toArray, List.set_cons_succ, List.set_cons_zero]
      refine wpAnyH_take (i := 13) (v := ?_) rfl (by kernel_rfl) (by kernel_rfl) (by kernel_rfl) (fun _ _ _ h => h) (Or.inl ⟨rfl, ?_⟩) hHeld ?_
      rotate_left
      · intro w' hS; obtain ⟨s0, s1⟩ := hS; go_simp <;> with_reducible rfl
      simp only [Act.put, List.getElem_toArray, List.getElem_cons_succ, List.getElem_cons_zero, List.setIfInBounds_toArray, List.set_cons_succ, List.set_cons_zero]
      refine wpAnyH_take (i := 14) (v := ?_) rfl (by kernel_rfl) (by kernel_rfl) (by kernel_rfl) (fun _ _ _ h => h) (Or.inl ⟨rfl, ?_⟩) hHeld ?_
      rotate_left
      · intro w' hS; obtain ⟨s0, s1⟩ := hS; go_simp <;> with_reducible rfl
      simp only [Act.put, List.getElem_toArray, List.getElem_cons_succ, List.getElem_cons_zero, List.setIfInBounds_toArray, List.set_cons_succ, List.set_cons_zero]
      refine wpAnyH_take (i := 15) (v := ?_) rfl (by kernel_rfl) (by kernel_rfl) (by kernel_rfl) (fun _ _ _ h => h) (Or.inl ⟨rfl, ?_⟩) hHeld ?_
      rotate_left
      · intro w' hS; obtain ⟨s0, s1⟩ := hS; go_simp <;> with_reducible rfl
      simp only [Act.put, List.getElem_toArray, List.getElem_cons_succ, List.getElem_cons_zero, List.setIfInBounds_toArray, List.set_cons_succ, List.set_cons_zero]
      refine wpAnyH_take (i := 16) (v := ?_) rfl (by kernel_rfl) (by kernel_rfl) (by kernel_rfl) (fun _ _ _ h => h) (Or.inl ⟨rfl, ?_⟩) hHeld ?_
      rotate_left
      · intro w' hS; obtain ⟨s0, s1⟩ := hS; go_simp <;> with_reducible rfl
      simp only [Act.put, List.getElem_toArray, List.getElem_cons_succ, List.getElem_cons_zero, List.setIfInBounds_toArray, List.set_cons_succ, List.set_cons_zero]
      refine wpAnyH_ready (rs := [17]) (by kernel_rfl) (by simp) (AllReadyH.cons rfl (fun K hK => ?_) AllReadyH.nil)
      go_simp
      refine (cuBits_any D l.length d l _ _ hD2 rfl hn HST.out (by omega)).mono ?_
      rintro e w3 ⟨rfl, rfl⟩
      refine hK.out _ _ (box1_of hc) (fun hHeld => ?_)
      clear hK K
      try simp only [Act.put, List.getElem_toArray, List.getElem_cons_succ, List.getElem_cons_zero, List.setIfInBounds_toArray, List.set_cons_succ, List.set_cons_zero]
      refine wpAnyH_ready (rs := [18]) (by kernel_rfl) (by simp) (AllReadyH.cons rfl (fun K hK => ?_) AllReadyH.nil)
      go_simp
      refine (cuCan_any k q x (maskOf l) _ hk HXL.out HM1.out HM2.out).mono ?_
      rintro e w4 ⟨rfl, hb⟩
      replace ht := below_then ht hb ht.size
      replace hc := hc.below hb
      clear hb
      refine hK.out _ _ (box1_of hc) (fun hHeld => ?_)
      clear hK K
      try simp only [Act.put, List.getElem_toArray, List.getElem_cons_succ, List.getElem_cons_zero, List.setIfInBounds_toArray, List.set_cons_succ, List.set_cons_zero]
      refine wpAnyH_take (i := 19) (v := ?_) rfl (by kernel_rfl) (by kernel_rfl) (by kernel_rfl) (fun _ _ _ h => h) (Or.inl ⟨rfl, ?_⟩) hHeld ?_
      rotate_left
      · intro w' hS; obtain ⟨s0, s1⟩ := hS; go_simp <;> with_reducible rfl
      simp only [Act.put, List.getElem_toArray, List.getElem_cons_succ, List.getElem_cons_zero, List.setIfInBounds_toArray, List.set_cons_succ, List.set_cons_zero]
      refine wpAnyH_take (i := 20) (v := ?_) rfl (by kernel_rfl) (by kernel_rfl) (by kernel_rfl) (fun _ _ _ h => h) (Or.inl ⟨rfl, ?_⟩) hHeld ?_
      rotate_left
      · intro w' hS; obtain ⟨s0, s1⟩ := hS; go_simp <;> with_reducible rfl
      simp only [Act.put, List.getElem_toArray, List.getElem_cons_succ, List.getElem_cons_zero, List.setIfInBounds_toArray, List.set_cons_succ, List.set_cons_zero]
      refine wpAnyH_done (by kernel_rfl) ?_ _
      clear hHeld
      go_wp2
      go_ret
      exact ⟨ret_of (by rw [HP.out]; rfl), ht⟩
end Go.Proofs.Ytoedcieofjcgkaa

namespace Go.Proofs.Ytoedcieofjcgkaa
open Go.RowKit

/-- The number of the state behind a row. -/
noncomputable def stepC (x : Nat) (l : List Int) : Nat := x ^^^ (2 * maskOf l + 1)
/-- Are the lists rows, one after the other, and does the last one end at e? -/
noncomputable def planM (k : Nat) (q : Int) (e : Nat) : Nat → List (List Int) → Bool
  | x, [] => decide (x = e)
  | x, l :: ls => tripM k q x l && planM k q e (stepC x l) ls
theorem planM_stop {k : Nat} {q : Int} {e x : Nat} {ls : List (List Int)} {j : Nat} (hj : j < ls.length) (h : tripM k q x ls[j] = false) : planM k q e x (ls.drop j) = false := by
  rw [List.drop_eq_getElem_cons hj, planM, h]; rfl
theorem planM_next {k : Nat} {q : Int} {e x : Nat} {ls : List (List Int)} {j : Nat} (hj : j < ls.length) (h : tripM k q x ls[j] = true) : planM k q e x (ls.drop j) = planM k q e (stepC x ls[j]) (ls.drop (j + 1)) := by
  rw [List.drop_eq_getElem_cons hj, planM, h]; rfl
theorem trip_mask {k : Nat} {q : Int} {x : Nat} {l : List Int} (hk : k ≤ 4) (h : tripM k q x l = true) : StepsTo l (2 * k - 1) l.length ∧ maskOf l < 2 ^ (2 * k) := by
  simp only [tripM, Bool.and_eq_true] at h
  have hst := rising_steps h.2.1
  have hlen := (within_iff.1 h.1).1
  exact ⟨hst, mask_lt (n := 2 * k) (by have := steps_len hst (by omega); omega) l (fun x hx => by have := (mem_steps hst hx).2; omega)⟩
theorem stepC_lt {k x : Nat} {l : List Int} (hx : x / 2 < 2 ^ (2 * k)) (hm : maskOf l < 2 ^ (2 * k)) : stepC x l / 2 < 2 ^ (2 * k) := by
  have ha : x < 2 ^ (2 * k + 1) := by rw [Nat.pow_succ]; omega
  have hb : 2 * maskOf l + 1 < 2 ^ (2 * k + 1) := by rw [Nat.pow_succ]; omega
  have := Nat.xor_lt_two_pow ha hb
  rw [Nat.pow_succ] at this
  unfold stepC
  omega

set_option maxHeartbeats 3200000 in
set_option maxRecDepth 100000 in
theorem cuPlan_any (k : Nat) (q : Int) (D : Option Addr) (n z : Nat) (rs : List RowV) (w : World) (hk : k ≤ 4) (hD : Grid w D rs) (hz : rs.length = n) (hn : n ≤ 9223372036854775807) :
    Calls Try.prog 61 #[.agg #[.int .i64 k, .int .i64 q], .slice D n z] w fun e w' => e = .returned (.bool (planM k q (2 * 2 ^ (2 * k) - 1) 0 (rowNums rs))) ∧ Below w.heap.size w w' := by
  obtain rfl : rs.length = n := hz
  have hp := pow_c hk
  have h1p : 1 ≤ 2 ^ (2 * k) := Nat.one_le_two_pow
  have hp0 := Whole.fresh w 28 #[.int .i64 k, .int .i64 q]
  have ht0 := below1 w (.cells #[.int .i64 k, .int .i64 q] 28)
  have hD0 := hD.alloc (.cells #[.int .i64 k, .int .i64 q] 28)
  obtain ⟨N, hN⟩ : ∃ N : Nat, N = 2 ^ (2 * k) := ⟨_, rfl⟩
  rw [← hN] at hp h1p
  have HNN := Lib.hid hN
  obtain ⟨P, hP⟩ : ∃ P : Bool, P = planM k q (2 * 2 ^ (2 * k) - 1) 0 (rowNums rs) := ⟨_, rfl⟩
  rw [← hP]
  have HP := Lib.hid hP
  have HLS := Lib.hid (rowNums_len rs)
  clear hP hN hD
  go_enter Try.func61, Try.ntmps61
  go_wp2_with fail
  go_loopw [5, 10] (fun v i wr => ∃ j x : Nat, j ≤ rs.length ∧ i = .int .i64 j ∧ v = .int .i64 x ∧ x / 2 < N ∧ P = planM k q (2 * N - 1) x ((rowNums rs).drop j) ∧ Whole wr w.heap.size 28 #[.int .i64 k, .int .i64 q] ∧ Grid wr D rs ∧ Below w.heap.size w wr) (fun _ i _ => rs.length - (intOf i).toNat)
  case atStart => exact ⟨0, 0, Nat.zero_le _, rfl, rfl, by omega, by rw [HP.out, HNN.out]; rfl, hp0, hD0, ht0⟩
  case round =>
    obtain ⟨j, x, hj, rfl, rfl, hxN, hpl, hc, hG, ht⟩ := hrel
    have HPL := Lib.hid hpl
    have HXN : Hid (x / 2 < 2 ^ (2 * k)) := by show _ < _; rw [← HNN.out]; exact hxN
    obtain ⟨c0, c1, -, -⟩ := hc.two
    clear hpl hp0 ht0 hD0
    by_cases hlt : j < rs.length
    · obtain ⟨b, o, rfl, hb, hcell, hrow, hrl, hrn⟩ := hG.look hlt
      have hlj : j < (rowNums rs).length := by rw [HLS.out]; exact hlt
      have HGT : Hid ((rowNums rs)[j] = rs[j].xs) := by show _ = _; simp [rowNums]
      cases hd : tripM k q x rs[j].xs
      · have HD := Lib.hid hd
        have HST : Hid (P = false) := by show _ = _; rw [HPL.out]; exact planM_stop hlj (by rw [HGT.out]; exact hd)
        clear hd
        go_wp2_with fail
        refine (cuTrip_any k q x _ _ _ rs[j].xs _ hk HXN.out hrow hrl hrn).mono ?_
        rintro e w1 ⟨rfl, hb1⟩
        rw [HD.out]
        have ht1 := below_then ht hb1 ht.size
        go_wp2
        go_ret
        exact ⟨ret_of (by rw [HST.out]; rfl), ht1⟩
      · have HD := Lib.hid hd
        obtain ⟨hst, hm⟩ := trip_mask hk hd
        have HM := Lib.hid hm
        have HSP := Lib.hid hst
        have hm8 : maskOf rs[j].xs < 256 := by have := HM.out; rw [← HNN.out] at this; omega
        have HNX : Hid (P = planM k q (2 * N - 1) (stepC x rs[j].xs) ((rowNums rs).drop (j + 1))) := by
          show _ = _
          rw [HPL.out, planM_next hlj (by rw [HGT.out]; exact hd), HGT.out]
        clear hd hst hm
        have HXX := Lib.hid (show Go.bits .xor .i64 (x : Int) (2 * (maskOf rs[j].xs : Int) + 1) = ((stepC x rs[j].xs : Nat) : Int) by
          rw [show (2 * (maskOf rs[j].xs : Int) + 1) = ((2 * maskOf rs[j].xs + 1 : Nat) : Int) by omega]; exact bits_xor_nat _ _ (by omega) (by omega))
        go_wp2_with fail
        refine (cuTrip_any k q x _ _ _ rs[j].xs _ hk HXN.out hrow hrl hrn).mono ?_
        rintro e w1 ⟨rfl, hb1⟩
        rw [HD.out]
        have ht1 := below_then ht hb1 ht.size
        have hc1 := hc.below hb1
        have hG1 := hG.below hb1
        have hrow1 := hrow.below hb1
        clear c0 c1 hc hG ht hcell
        go_wp2_with fail
        refine (cuBits_any _ _ _ rs[j].xs (2 * k - 1) _ hrow1 hrl hrn HSP.out (by omega)).mono ?_
        rintro e w2 ⟨rfl, rfl⟩
        go_wp2
        go_roundw
        case measure => simp [intOf]; omega
        case rel => exact ⟨j + 1, stepC x rs[j].xs, by omega, by go_num, by rw [HXX.out], by have := stepC_lt HXN.out HM.out; rw [← HNN.out] at this; exact this, HNX.out, hc1, hG1, ht1⟩
    · have hje : j = rs.length := by omega
      have HEN : Hid (P = decide (x = 2 * N - 1)) := by
        show _ = _
        rw [HPL.out, List.drop_eq_nil_of_le (by rw [HLS.out]; omega), planM]
      clear hje
      go_wp2_with fail
      refine (cuSize_any k q _ hk).mono ?_
      rintro e w1 ⟨rfl, hb1⟩
      rw [← HNN.out]
      have ht1 := below_then ht hb1 ht.size
      have HEQ : Hid (((x : Int) == 2 * (N : Int) - 1) = decide (x = 2 * N - 1)) := by
        show _ = _
        rw [Bool.eq_iff_iff]
        simp
        omega
      clear c0 c1 hc hG ht hb1
      go_wp2
      go_ret
      exact ⟨ret_of (by rw [HEN.out, HEQ.out]; rfl), ht1⟩
end Go.Proofs.Ytoedcieofjcgkaa

namespace Go.Proofs.Ytoedcieofjcgkaa
open Go.RowKit

/-- What IsCalmPlan hands back. -/
def TwoTold (a b : Bool) (w : World) (e : Ending) (w' : World) : Prop := e = .returned (.tuple #[.bool a, .bool b]) ∧ Below w.heap.size w w'
def cpOk (a b : Int) (ls : List (List Int)) : Bool := isCo a b && decide (ls.length ≤ 40)
noncomputable def isCP (a b : Int) (ls : List (List Int)) : Bool := cpOk a b ls && planM a.toNat b (2 * 2 ^ (2 * a.toNat) - 1) 0 ls
theorem cp_no {a b : Int} {ls : List (List Int)} (h : isCo a b = false ∨ 40 < ls.length) : cpOk a b ls = false ∧ isCP a b ls = false := by
  have h0 : cpOk a b ls = false := by
    rcases h with h | h
    · simp [cpOk, h]
    · simp [cpOk]; omega
  exact ⟨h0, by simp [isCP, h0]⟩
theorem cp_yes {k : Nat} {b : Int} {ls : List (List Int)} (h : isCo k b = true) (h40 : ls.length ≤ 40) : cpOk k b ls = true ∧ isCP k b ls = planM k b (2 * 2 ^ (2 * k) - 1) 0 ls := by
  have h0 : cpOk k b ls = true := by simp [cpOk, h, h40]
  exact ⟨h0, by simp [isCP, h0]⟩

set_option maxHeartbeats 800000 in
set_option maxRecDepth 100000 in
theorem specIsCalmPlan_any (D : Option Addr) (n z : Nat) (a b : Int) (rs : List RowV) (w : World) (hD : Grid w D rs) (hz : rs.length = n) (hn : n ≤ 9223372036854775807) :
    Calls Try.prog 16 #[.agg #[.int .i64 a, .int .i64 b], .slice D n z] w (TwoTold (isCP a b (rowNums rs)) (cpOk a b (rowNums rs)) w) := by
  have HZ := Lib.hid hz
  have HLS := Lib.hid (rowNums_len rs)
  have hD2 := hD.alloc (.cells #[.int .i64 a, .int .i64 b] 28)
  have h0 := Whole.fresh w 28 #[.int .i64 a, .int .i64 b]
  have hbw := below1 w (.cells #[.int .i64 a, .int .i64 b] 28)
  clear hz
  cases hp : isCo a b
  · have HP := Lib.hid hp
    have HF := Lib.hid (cp_no (ls := rowNums rs) (.inl hp))
    clear hp
    go_enter Try.func16, Try.ntmps16
    go_wp2_with fail
    refine (cuGood_any a b _).mono ?_
    rintro e w1 ⟨rfl, hb⟩
    rw [HP.out]
    have ht := below_then hbw hb (by simp)
    clear hb
    go_wp2
    go_ret2
    exact ⟨by rw [HF.out.1, HF.out.2]; rfl, ht⟩
  · have HP := Lib.hid hp
    obtain ⟨⟨ha1, ha4⟩, hb1, hb4⟩ := isCo_iff.1 hp
    obtain ⟨k, rfl⟩ : ∃ k : Nat, a = k := ⟨a.toNat, by omega⟩
    have hk : k ≤ 4 := by omega
    by_cases h40 : 40 < n
    · have hd : decide ((n : Int) > 40) = true := by simp; omega
      have HF := Lib.hid (cp_no (a := k) (b := b) (ls := rowNums rs) (.inr (by have := HLS.out; have := HZ.out; omega)))
      clear hp
      go_enter Try.func16, Try.ntmps16
      go_wp2_with fail
      refine (cuGood_any k b _).mono ?_
      rintro e w1 ⟨rfl, hb⟩
      rw [HP.out]
      have ht := below_then hbw hb (by simp)
      clear hb
      go_wp2
      go_ret2
      exact ⟨by rw [HF.out.1, HF.out.2]; rfl, ht⟩
    · have hd : decide ((n : Int) > 40) = false := by simp; omega
      have HF := Lib.hid (cp_yes (ls := rowNums rs) hp (by have := HLS.out; have := HZ.out; omega))
      clear hp
      go_enter Try.func16, Try.ntmps16
      go_wp2_with fail
      refine (cuGood_any k b _).mono ?_
      rintro e w1 ⟨rfl, hb⟩
      rw [HP.out]
      have ht := below_then hbw hb (by simp)
      have hD3 := hD2.below hb
      obtain ⟨c0, c1, -, -⟩ := (h0.below hb).two
      clear hb
      go_wp2_with fail
      refine (cuPlan_any k b D n z rs _ hk hD3 HZ.out hn).mono ?_
      rintro e w2 ⟨rfl, hb⟩
      replace ht := below_then ht hb ht.size
      clear hb c0 c1
      go_wp2
      go_ret2
      exact ⟨by rw [HF.out.1, HF.out.2]; rfl, ht⟩
end Go.Proofs.Ytoedcieofjcgkaa

namespace Go.Proofs.Ytoedcieofjcgkaa
open Go.RowKit

/-- Two places compared. -/
def sameEight (v0 v1 v2 v3 v4 v5 v6 v7 u0 u1 u2 u3 u4 u5 u6 u7 : Bool) : Bool := v0 == u0 && v1 == u1 && v2 == u2 && v3 == u3 && v4 == u4 && v5 == u5 && v6 == u6 && v7 == u7
def samePlace (v0 v1 v2 v3 v4 v5 v6 v7 v8 u0 u1 u2 u3 u4 u5 u6 u7 u8 : Bool) : Bool := sameEight v0 v1 v2 v3 v4 v5 v6 v7 u0 u1 u2 u3 u4 u5 u6 u7 && v8 == u8
set_option maxHeartbeats 1600000 in
theorem eight_eq (v0 v1 v2 v3 v4 v5 v6 v7 u0 u1 u2 u3 u4 u5 u6 u7 : Bool) (w : World) : (Op.equalIn 9998 75 (.agg #[.bool v0, .bool v1, .bool v2, .bool v3, .bool v4, .bool v5, .bool v6, .bool v7]) (.agg #[.bool u0, .bool u1, .bool u2, .bool u3, .bool u4, .bool u5, .bool u6, .bool u7])).run Try.prog w = .ok (sameEight v0 v1 v2 v3 v4 v5 v6 v7 u0 u1 u2 u3 u4 u5 u6 u7) w := by
  unfold sameEight
  have uB := Try.underlying4
  have aB := Try.isAgg4
  have zB := Try.sizeOf4
  rw [show (9998 : Nat) = 9997 + 1 from rfl, Op.equalIn]
  simp only [Sem.run_bind, run_underlying Try.underlying75, Result.andThen_ok]
  simp only [Std.Legacy.Range.forIn_eq_forIn_range', Std.Legacy.Range.size, Nat.sub_zero, Nat.add_sub_cancel, Nat.div_one, List.range'_succ, List.range'_zero, List.forIn_cons, List.forIn_nil]
  go_simp
  by_cases h0 : v0 = u0
  case neg => simp [h0]
  case pos =>
    subst h0
    by_cases h1 : v1 = u1
    case neg => simp [h1]
    case pos =>
      subst h1
      by_cases h2 : v2 = u2
      case neg => simp [h2]
      case pos =>
        subst h2
        by_cases h3 : v3 = u3
        case neg => simp [h3]
        case pos =>
          subst h3
          by_cases h4 : v4 = u4
          case neg => simp [h4]
          case pos =>
            subst h4
            by_cases h5 : v5 = u5
            case neg => simp [h5]
            case pos =>
              subst h5
              by_cases h6 : v6 = u6
              case neg => simp [h6]
              case pos =>
                subst h6
                by_cases h7 : v7 = u7
                case neg => simp [h7]
                case pos =>
                  subst h7
                  simp
set_option maxHeartbeats 1600000 in
@[go_sem high] theorem place_eq (v0 v1 v2 v3 v4 v5 v6 v7 v8 u0 u1 u2 u3 u4 u5 u6 u7 u8 : Bool) (w : World) : (Op.equalIn 10000 79 (.agg #[.bool v0, .bool v1, .bool v2, .bool v3, .bool v4, .bool v5, .bool v6, .bool v7, .bool v8]) (.agg #[.bool u0, .bool u1, .bool u2, .bool u3, .bool u4, .bool u5, .bool u6, .bool u7, .bool u8])).run Try.prog w = .ok (samePlace v0 v1 v2 v3 v4 v5 v6 v7 v8 u0 u1 u2 u3 u4 u5 u6 u7 u8) w := by
  have h := eight_eq v0 v1 v2 v3 v4 v5 v6 v7 u0 u1 u2 u3 u4 u5 u6 u7
  unfold samePlace
  generalize sameEight v0 v1 v2 v3 v4 v5 v6 v7 u0 u1 u2 u3 u4 u5 u6 u7 = b at h ⊢
  go_simp
  by_cases h8 : v8 = u8 <;> cases b <;> simp [h8]

theorem sameBits_ext {bs cs : List Bool} (hl : bs.length = cs.length) (h8 : bs.length ≤ 8) : sameEight (bs.getD 0 false) (bs.getD 1 false) (bs.getD 2 false) (bs.getD 3 false) (bs.getD 4 false) (bs.getD 5 false) (bs.getD 6 false) (bs.getD 7 false) (cs.getD 0 false) (cs.getD 1 false) (cs.getD 2 false) (cs.getD 3 false) (cs.getD 4 false) (cs.getD 5 false) (cs.getD 6 false) (cs.getD 7 false) = sameBits bs cs := by
  by_cases h : bs = cs
  · subst h
    rw [sameBits_yes rfl]
    simp [sameEight]
  · rw [sameBits_no h]
    cases hs : sameEight (bs.getD 0 false) (bs.getD 1 false) (bs.getD 2 false) (bs.getD 3 false) (bs.getD 4 false) (bs.getD 5 false) (bs.getD 6 false) (bs.getD 7 false) (cs.getD 0 false) (cs.getD 1 false) (cs.getD 2 false) (cs.getD 3 false) (cs.getD 4 false) (cs.getD 5 false) (cs.getD 6 false) (cs.getD 7 false)
    · rfl
    · exfalso
      apply h
      simp only [sameEight, Bool.and_eq_true, beq_iff_eq] at hs
      obtain ⟨⟨⟨⟨⟨⟨⟨e0, e1⟩, e2⟩, e3⟩, e4⟩, e5⟩, e6⟩, e7⟩ := hs
      apply List.ext_getElem hl
      intro i h1 h2
      have g : ∀ (l : List Bool) (h : i < l.length), l[i] = l.getD i false := fun l h => by simp [h]
      rw [g bs h1, g cs h2]
      match i, h1 with
      | 0, _ => exact e0
      | 1, _ => exact e1
      | 2, _ => exact e2
      | 3, _ => exact e3
      | 4, _ => exact e4
      | 5, _ => exact e5
      | 6, _ => exact e6
      | 7, _ => exact e7
      | k + 8, h => omega
end Go.Proofs.Ytoedcieofjcgkaa

namespace Go.Proofs.Ytoedcieofjcgkaa
open Go.RowKit

theorem nat_bits {a b : Nat} (h : ∀ i, bitAt a i = bitAt b i) : a = b := Nat.eq_of_testBit_eq h
theorem bit_code (bs : List Bool) (t : Bool) (i : Nat) : bitAt (codeOf bs t) i = if i = 0 then t else (decide (i - 1 < bs.length) && bs.getD (i - 1) false) := by
  cases i with
  | zero =>
    rw [bitAt_def]
    unfold codeOf
    cases t <;> simp <;> omega
  | succ j =>
    have h := bit_maskUp (fun i => bs.getD i false) bs.length j
    rw [← code_half bs t] at h
    simp only [Nat.add_one_ne_zero, if_false, Nat.add_one_sub_one]
    rw [← h, bitAt, bitAt, Nat.testBit_succ]
theorem bit_step (l : List Int) (h0 : ∀ x ∈ l, 0 ≤ x) (i : Nat) : bitAt (2 * maskOf l + 1) i = if i = 0 then true else has l (i - 1) := by
  cases i with
  | zero => rw [bitAt_def]; simp
  | succ j =>
    simp only [Nat.add_one_ne_zero, if_false, Nat.add_one_sub_one]
    rw [← mask_bit l h0 j, bitAt, bitAt, Nat.testBit_succ]
    congr 1
    omega
/-- The number of the state behind a row. -/
theorem step_code {n : Nat} {bs : List Bool} {t : Bool} {l : List Int} (hb : bs.length = n) (h0 : ∀ x ∈ l, 0 ≤ x ∧ x < n) : stepC (codeOf bs t) l = codeOf (flipped bs l) (!t) := by
  apply nat_bits
  intro i
  have h1 := bit_code bs t i
  have h2 := bit_step l (fun x hx => (h0 x hx).1) i
  rw [bit_code, stepC, bitAt, Nat.testBit_xor]
  unfold bitAt at h1 h2
  rw [h1, h2]
  cases i with
  | zero => cases t <;> rfl
  | succ j =>
    simp only [Nat.add_one_ne_zero, if_false, Nat.add_one_sub_one]
    rw [flipped_len]
    by_cases hj : j < bs.length
    · rw [flipped_get _ _ hj]
      simp [hj]
    · have hn : has l j = false := by
        cases hh : has l j
        · rfl
        · have := (h0 _ (has_iff.1 hh)).2
          omega
      simp [hj, hn]

/-- Two rising lists of the same numbers are one list. -/
theorem rising_same : ∀ {a b : List Int}, a.Pairwise (· < ·) → b.Pairwise (· < ·) → (∀ x, x ∈ a ↔ x ∈ b) → a = b
  | [], [], _, _, _ => rfl
  | [], y :: ys, _, _, h => absurd ((h y).2 (by simp)) (by simp)
  | x :: xs, [], _, _, h => absurd ((h x).1 (by simp)) (by simp)
  | x :: xs, y :: ys, ha, hb, h => by
    obtain ⟨ha1, ha2⟩ := List.pairwise_cons.1 ha
    obtain ⟨hb1, hb2⟩ := List.pairwise_cons.1 hb
    have hxy : x = y := by
      rcases List.mem_cons.1 ((h x).1 (by simp)) with e | hx
      · exact e
      · rcases List.mem_cons.1 ((h y).2 (by simp)) with e | hy
        · exact e.symm
        · have h1 := hb1 _ hx
          have h2 := ha1 _ hy
          omega
    subst hxy
    rw [rising_same ha2 hb2 fun z => ⟨fun hz => ?_, fun hz => ?_⟩]
    · rcases List.mem_cons.1 ((h z).1 (List.mem_cons_of_mem _ hz)) with e | hz'
      · have := ha1 _ hz; omega
      · exact hz'
    · rcases List.mem_cons.1 ((h z).2 (List.mem_cons_of_mem _ hz)) with e | hz'
      · have := hb1 _ hz; omega
      · exact hz'
theorem mem_firsts {n : Nat} {x : Int} : x ∈ firsts n ↔ 0 ≤ x ∧ x < n := by
  constructor
  · intro h
    have := firsts_mem h
    omega
  · intro h
    exact List.mem_map.2 ⟨x.toNat, List.mem_range.2 (by omega), by simp; omega⟩
theorem steps_sub {n : Nat} {l : List Int} (hs : StepsTo l ((n : Int) - 1) l.length) : l.Sublist (firsts n) := by
  have hm : ∀ x, x ∈ l → x ∈ firsts n := fun x hx => mem_firsts.2 (by have := mem_steps hs hx; omega)
  have he : l = (firsts n).filter (fun x => decide (x ∈ l)) := rising_same (steps_pair hs) ((firsts_pair n).filter _) fun x => by
    rw [List.mem_filter, decide_eq_true_eq]
    exact ⟨fun h => ⟨hm x h, h⟩, fun h => h.2⟩
  rw [he]
  exact List.filter_sublist
/-- The rising lists of people of so many, so many at most. -/
theorem mem_up {n m : Nat} {l : List Int} : l ∈ upLists n m ↔ StepsTo l ((n : Int) - 1) l.length ∧ 1 ≤ l.length ∧ l.length ≤ m := by
  refine ⟨up_steps, fun ⟨h1, h2, h3⟩ => ?_⟩
  rw [upLists, subs_mem]
  exact ⟨l, rfl, by intro h; rw [h] at h2; simp at h2, steps_sub h1, h3⟩
theorem list_mask {l : List Int} (hs : StepsTo l 7 l.length) : listOf (maskOf l) = l := by
  have h8 : ∀ x ∈ l, 0 ≤ x ∧ x ≤ 7 := fun x hx => mem_steps hs hx
  refine rising_same ?_ (steps_pair hs) fun x => ?_
  · have h := (firsts_pair 8).sublist (l₁ := listOf (maskOf l)) (by unfold listOf listTo firsts; exact List.filter_sublist.map _)
    exact h
  · unfold listOf listTo
    rw [List.mem_map]
    constructor
    · rintro ⟨i, hi, rfl⟩
      rw [List.mem_filter, mask_bit l (fun x hx => (h8 x hx).1)] at hi
      exact has_iff.1 hi.2
    · intro hx
      have hb := h8 x hx
      refine ⟨x.toNat, List.mem_filter.2 ⟨List.mem_range.2 (by omega), ?_⟩, by simp; omega⟩
      rw [mask_bit l (fun x hx => (h8 x hx).1), has_iff]
      rw [Int.toNat_of_nonneg hb.1]
      exact hx
theorem bit_here {k : Nat} {bs : List Bool} {t : Bool} (hb : bs.length = 2 * k) (i : Nat) : bitAt (hereM k (codeOf bs t)) i = (decide (i < 2 * k) && (bs.getD i false == t)) := by
  have hm := bit_maskUp (fun i => bs.getD i false) bs.length
  have hlt := maskUp_lt (fun i => bs.getD i false) bs.length
  unfold hereM
  rw [code_half]
  cases t
  · rw [if_pos (by unfold codeOf; simp), ← hb, rest_bit hlt, hm]
    by_cases h : i < bs.length <;> simp [h]
  · rw [if_neg (by unfold codeOf; simp), hm, hb]
    by_cases h : i < 2 * k <;> simp [h]
theorem here_all {k : Nat} {bs : List Bool} {t : Bool} {l : List Int} (hb : bs.length = 2 * k) (h0 : ∀ x ∈ l, 0 ≤ x ∧ x < 2 * k) : decide (maskOf l &&& hereM k (codeOf bs t) = maskOf l) = allAt bs t l := by
  have hbit : ∀ i, bitAt (maskOf l &&& hereM k (codeOf bs t)) i = (has l i && (decide (i < 2 * k) && (bs.getD i false == t))) := fun i => by
    rw [← bit_here hb i, ← mask_bit l (fun x hx => (h0 x hx).1) i]
    exact Nat.testBit_and _ _ _
  have hml := mask_bit l (fun x hx => (h0 x hx).1)
  rw [Bool.eq_iff_iff, decide_eq_true_eq, allAt, List.all_eq_true]
  constructor
  · intro h x hx
    have hb0 := h0 x hx
    have h1 := hbit x.toNat
    rw [h, hml, has_iff.2 (by rw [Int.toNat_of_nonneg hb0.1]; exact hx)] at h1
    simp only [Bool.true_and] at h1
    exact (Bool.and_eq_true_iff.1 h1.symm).2
  · intro h
    refine nat_bits fun i => ?_
    rw [hbit, hml]
    cases hh : has l i
    · rfl
    · have hi := has_iff.1 hh
      have h1 := h _ hi
      have h2 := h0 _ hi
      simp only [Int.toNat_natCast] at h1
      rw [h1, Bool.true_and, Bool.and_true, decide_eq_true_eq]
      omega
/-- The model's rows and the program's are the same. -/
theorem trip_rows {k q : Nat} {bs : List Bool} {t : Bool} {l : List Int} (hk : k ≤ 4) (hb : bs.length = 2 * k) : tripM k q (codeOf bs t) l = decide (l ∈ rowsIn k q bs t) := by
  rw [Bool.eq_iff_iff, decide_eq_true_eq, rowsIn, rowsAmong, List.mem_filter, groupsOf, grpOf, List.mem_filter, mem_up]
  simp only [tripM, canM, Bool.and_eq_true, within_iff]
  constructor
  · rintro ⟨⟨h1, h2⟩, h3, h4, h5, h6, h7⟩
    have hst := rising_steps h3
    have hm : ∀ x ∈ l, 0 ≤ x ∧ x < 2 * k := fun x hx => by have := mem_steps hst hx; omega
    rw [here_all hb hm] at h4
    rw [calm_congr (g := has l) (fun i _ => mask_bit l (fun x hx => (hm x hx).1) i)] at h6
    have hs := step_code (t := t) hb (l := l) (fun x hx => by have := hm x hx; omega)
    rw [stepC] at hs
    rw [hs, quiet_code (by rw [flipped_len]; exact hb)] at h7
    exact ⟨⟨⟨by push_cast; exact hst, by omega, by omega⟩, h6⟩, h4, h7⟩
  · rintro ⟨⟨⟨hst, h1, h2⟩, h6⟩, h4, h7⟩
    have hm : ∀ x ∈ l, 0 ≤ x ∧ x < 2 * k := fun x hx => by have := mem_steps hst hx; omega
    rw [← here_all hb hm] at h4
    have hs := step_code (t := t) hb (l := l) (fun x hx => by have := hm x hx; omega)
    rw [stepC] at hs
    rw [hs, quiet_code (by rw [flipped_len]; exact hb)]
    rw [← calm_congr (f := bitAt (maskOf l)) (g := has l) (fun i _ => mask_bit l (fun x hx => (hm x hx).1) i)] at h6
    have h7' : StepsTo l 7 l.length := fun j hj => by
      have := hst j hj
      unfold Step at this ⊢
      omega
    refine ⟨⟨by omega, by omega⟩, rising_yes (by push_cast at hst; exact hst) (Nat.le_refl _), h4, ?_, h6, h7⟩
    rw [list_mask h7', decide_eq_true_eq]
    omega

/-- Are the lists rows, one after the other, told by places? -/
def playP (k q : Nat) : List Bool → Bool → List (List Int) → Bool
  | bs, t, [] => sameBits bs (trues (2 * k)) && t
  | bs, t, l :: ls => decide (l ∈ rowsIn k q bs t) && playP k q (flipped bs l) (!t) ls
theorem play_stop {k q : Nat} {bs : List Bool} {t : Bool} {ls : List (List Int)} {j : Nat} (hj : j < ls.length) (h : ls[j] ∉ rowsIn k q bs t) : playP k q bs t (ls.drop j) = false := by
  rw [List.drop_eq_getElem_cons hj, playP, decide_eq_false h]; rfl
theorem play_next {k q : Nat} {bs : List Bool} {t : Bool} {ls : List (List Int)} {j : Nat} (hj : j < ls.length) (h : ls[j] ∈ rowsIn k q bs t) : playP k q bs t (ls.drop j) = playP k q (flipped bs ls[j]) (!t) (ls.drop (j + 1)) := by
  rw [List.drop_eq_getElem_cons hj, playP, decide_eq_true h]; rfl
theorem rows_bound {k q : Nat} {bs : List Bool} {t : Bool} {l : List Int} (h : l ∈ rowsIn k q bs t) : ∀ x ∈ l, 0 ≤ x ∧ x < ((2 * k : Nat) : Int) := fun x hx => by
  have h1 := (mem_up.1 (groups_up (List.mem_filter.1 h).1)).1
  have := mem_steps h1 hx
  omega
theorem code_end {n : Nat} {bs : List Bool} {t : Bool} (hb : bs.length = n) : decide (codeOf bs t = 2 * 2 ^ n - 1) = (sameBits bs (trues n) && t) := by
  have hp : 1 ≤ 2 ^ n := Nat.one_le_two_pow
  have he : (2 : Nat) * 2 ^ n - 1 = 2 ^ (n + 1) - 1 := by rw [Nat.pow_succ]; omega
  rw [Bool.eq_iff_iff, decide_eq_true_eq, Bool.and_eq_true]
  constructor
  · intro h
    have hbit : ∀ i, bitAt (codeOf bs t) i = decide (i < n + 1) := fun i => by rw [h, he]; exact Nat.testBit_two_pow_sub_one ..
    have h0 := hbit 0
    rw [bit_code] at h0
    have ht : t = true := by simpa using h0
    refine ⟨sameBits_yes (List.ext_getElem (by rw [hb, trues_len]) fun i h1 h2 => ?_), ht⟩
    have h3 := hbit (i + 1)
    rw [bit_code] at h3
    simp only [Nat.add_one_ne_zero, if_false, Nat.add_one_sub_one] at h3
    have h4 : bs.getD i false = true := by
      have : decide (i + 1 < n + 1) = true := by simp; omega
      rw [this] at h3
      exact (Bool.and_eq_true_iff.1 h3).2
    rw [show bs[i] = bs.getD i false by simp [h1], h4]
    simp [trues]
  · rintro ⟨h, ht⟩
    have h : bs = trues n := by simpa [sameBits] using h
    refine nat_bits fun i => ?_
    rw [bit_code, he, h, ht, trues_len]
    cases i with
    | zero => rw [bitAt, Nat.testBit_two_pow_sub_one]; simp
    | succ j =>
      rw [bitAt, Nat.testBit_two_pow_sub_one]
      simp only [Nat.add_one_ne_zero, if_false, Nat.add_one_sub_one]
      by_cases hj : j < n <;> simp [hj, trues]
/-- Both tests of a plan tell the same. -/
theorem plan_play {k q : Nat} (hk : k ≤ 4) : ∀ (ls : List (List Int)) (bs : List Bool) (t : Bool), bs.length = 2 * k → planM k q (2 * 2 ^ (2 * k) - 1) (codeOf bs t) ls = playP k q bs t ls
  | [], bs, t, hb => by rw [planM, playP, code_end hb]
  | l :: ls, bs, t, hb => by
    rw [planM, playP, trip_rows hk hb]
    by_cases h : l ∈ rowsIn k q bs t
    · rw [step_code hb (rows_bound h), plan_play hk ls (flipped bs l) (!t) (by rw [flipped_len]; exact hb)]
    · rw [decide_eq_false h]; rfl
theorem code_first (n : Nat) : codeOf (falses n) false = 0 := by
  refine nat_bits fun i => ?_
  rw [bit_code, bitAt, Nat.zero_testBit]
  cases i <;> simp [falses, List.getElem?_replicate]
  split <;> (intro; rfl)
end Go.Proofs.Ytoedcieofjcgkaa

namespace Go.Proofs.Ytoedcieofjcgkaa
open Go.RowKit

set_option maxHeartbeats 12800000 in
set_option maxRecDepth 100000 in
theorem leadsOver_any (k q gG gC g1 g3 g4 g : Nat) (A : Option Addr) (c : Nat) (D : Option Addr) (n z : Nat) (rs : List RowV) (w : World) (hk : k ≤ 4) (hF : RowsFn w k gG gC g1 g3 g4 g A c (groupsOf k q)) (hD : Grid w D rs) (hz : rs.length = n) (hn : n ≤ 9223372036854775807) (h40 : n ≤ 1048576) :
    Calls Try.prog 63 #[.agg (riverCells k gG gC), .slice D n z] w fun e w' => e = .returned (.bool (playP k q (falses (2 * k)) false (rowNums rs))) ∧ Below w.heap.size w w' := by
  have HZ := Lib.hid hz
  have HLS := Lib.hid (rowNums_len rs)
  obtain ⟨Q, hP⟩ : ∃ Q : Bool, Q = playP k q (falses (2 * k)) false (rowNums rs) := ⟨_, rfl⟩
  have HPP := Lib.hid hP
  rw [← hP]
  clear hz hP
  have HRF := Lib.hid hF
  have HR0 := Lib.hid (Whole.fresh w 82 (riverCells k gG gC))
  have HB0 := Lib.hid (below1 w (.cells (riverCells k gG gC) 82))
  have hw0 := HR0.out.lt
  go_enter Try.func63, Try.ntmps63
  go_upto_region 1 with fail
  generalize World.alloc w (.cells (riverCells k gG gC) 82) = W0 at HR0 HB0 hw0 ⊢
  have e0 : W0.cell? ⟨w.heap.size, 0, none⟩ = some (.bool false) := HR0.out.cell 0
  have e1 : W0.cell? ⟨w.heap.size, 1, none⟩ = some (.bool false) := HR0.out.cell 1
  have e2 : W0.cell? ⟨w.heap.size, 2, none⟩ = some (.bool false) := HR0.out.cell 2
  have e3 : W0.cell? ⟨w.heap.size, 3, none⟩ = some (.bool false) := HR0.out.cell 3
  have e4 : W0.cell? ⟨w.heap.size, 4, none⟩ = some (.bool false) := HR0.out.cell 4
  have e5 : W0.cell? ⟨w.heap.size, 5, none⟩ = some (.bool false) := HR0.out.cell 5
  have e6 : W0.cell? ⟨w.heap.size, 6, none⟩ = some (.bool false) := HR0.out.cell 6
  have e7 : W0.cell? ⟨w.heap.size, 7, none⟩ = some (.bool false) := HR0.out.cell 7
  have e8 : W0.cell? ⟨w.heap.size, 8, none⟩ = some (.bool false) := HR0.out.cell 8
  go_upto_region 2 with (refine wpList_store_whole rfl 79 (.tmp 5) (.tmp 11) rfl W0.heap.size (placeCells [] false) rfl rfl 79 _ (Whole.fresh _ _ _) size_place rfl (place_one _ _) ?_; intro W3 hw3 ho3)
  have hne : w.heap.size ≠ W0.heap.size := by omega
  have HR3 := Lib.hid (ho3.whole (HR0.out.alloc _) hne)
  have HB3 := Lib.hid (ho3.below (HB0.out.alloc HB0.out.size _) (by omega))
  rw [← place_falses (2 * k)] at hw3
  have HW3 := Lib.hid hw3
  clear hw3 ho3 e0 e1 e2 e3 e4 e5 e6 e7 e8
  go_wp2_with fail
  go_loopw [14] (fun i wr => ∃ (j : Nat) (bs : List Bool) (t : Bool), j ≤ n ∧ i = .int .i64 j ∧ bs.length = 2 * k ∧ Q = playP k q bs t ((rowNums rs).drop j) ∧ Whole wr w.heap.size 82 (riverCells k gG gC) ∧ Whole wr W0.heap.size 79 (placeCells bs t) ∧ Below w.heap.size w wr) (fun i _ => n - (intOf i).toNat)
  case atStart => exact ⟨0, falses (2 * k), false, Nat.zero_le _, rfl, falses_len _, HPP.out, HR3.out, HW3.out, HB3.out⟩
  case round =>
    obtain ⟨j, bs, t, hj, rfl, hbs, hpl, hR, hPl, hb⟩ := hrel
    have HBS := Lib.hid hbs
    have HPL := Lib.hid hpl
    have HR := Lib.hid hR
    have HPC := Lib.hid hPl
    have HB := Lib.hid hb
    have hpll := hPl.lt
    clear hbs hpl
    by_cases hlt : j < n
    · have hlt' : j < rs.length := by have := HZ.out; omega
      have hlj : j < (rowNums rs).length := by rw [HLS.out]; exact hlt'
      have hDr := hD.below hb
      obtain ⟨b, o, rfl, hbl, hcell, hrow, hrl, hrn⟩ := hDr.look hlt'
      have HRW := Lib.hid hrow
      have HRL := Lib.hid hrl
      have HGT : Hid ((rowNums rs)[j] = rs[j].xs) := by show _ = _; simp [rowNums]
      clear hR hPl hb hDr hrow hrl
      go_wp2_with (first | (refine wpList_load_row rfl 82 (.tmp 2) rfl w.heap.size rfl 82 (riverCells k gG gC) (0, 0) _ HR.out Try.underlying82 rfl size_river ?_) | (refine wpList_load_row rfl 79 (.tmp 5) rfl W0.heap.size rfl 79 (placeCells bs t) (0, 0) _ HPC.out Try.underlying79 rfl size_place ?_))
      refine (stateBehind_any k q gG gC g1 g3 g4 g A _ c _ _ bs t rs[j].xs _ hk HBS.out (HRF.out.below HB.out) HRW.out HRL.out hrn).mono ?_
      rintro e w4 ⟨⟨hmem, rfl⟩ | ⟨hmem, rfl⟩, hb4⟩
      · have HNX : Hid (Q = playP k q (flipped bs rs[j].xs) (!t) ((rowNums rs).drop (j + 1))) := by
          show _ = _
          rw [HPL.out, play_next hlj (by rw [HGT.out]; exact hmem), HGT.out]
        have hPl4 := HPC.out.below hb4
        have hp4 := hPl4.lt
        have hR4 := HR.out.below hb4
        have HB4 := Lib.hid (below_then HB.out hb4 HB.out.size)
        have hn4 : W0.heap.size ≠ w4.heap.size := by omega
        have hn4' : w.heap.size ≠ w4.heap.size := by omega
        have HP4 := Lib.hid hPl4
        have HR4 := Lib.hid hR4
        clear hmem hb4 hcell hPl4 hR4
        go_upto_region 6 with (refine wpList_store_whole rfl 79 (.tmp 8) (.tmp 23) rfl w4.heap.size (placeCells (flipped bs rs[j].xs) (!t)) rfl rfl 79 _ (Whole.fresh _ _ _) size_place rfl (place_one _ _) ?_; intro W5 hw5 ho5)
        have HW5 := Lib.hid hw5
        have HP5 := Lib.hid (ho5.whole (HP4.out.alloc _) hn4)
        have HR5 := Lib.hid (ho5.whole (HR4.out.alloc _) hn4')
        have HB5 := Lib.hid (ho5.below (HB4.out.alloc HB4.out.size _) HB4.out.size)
        clear hw5 ho5
        go_upto_region 9 with (first | (refine wpList_load_row rfl 79 (.tmp 8) rfl w4.heap.size rfl 79 (placeCells (flipped bs rs[j].xs) (!t)) (0, 0) _ HW5.out Try.underlying79 rfl size_place ?_) | (refine wpList_store_whole rfl 79 (.tmp 5) (.tmp 27) rfl W0.heap.size (placeCells (flipped bs rs[j].xs) (!t)) rfl rfl 79 _ HP5.out size_place rfl (place_one _ _) ?_; intro W6 hw6 ho6))
        have HW6 := Lib.hid hw6
        have HR6 := Lib.hid (ho6.whole HR5.out hne)
        have HB6 := Lib.hid (ho6.below HB5.out (by omega))
        clear hw6 ho6
        go_wp2
        go_roundw
        case measure => simp [intOf]; omega
        case rel => exact ⟨j + 1, flipped bs rs[j].xs, !t, by omega, by go_num, by rw [flipped_len]; exact HBS.out, HNX.out, HR6.out, HW6.out, HB6.out⟩
      · have HST : Hid (Q = false) := by show _ = _; rw [HPL.out]; exact play_stop hlj (by rw [HGT.out]; exact hmem)
        have HB4 := Lib.hid (below_then HB.out hb4 HB.out.size)
        clear hmem hb4 hcell
        go_upto_region 6 with (refine wpList_store_whole rfl 79 (.tmp 8) (.tmp 23) rfl w4.heap.size (placeCells bs t) rfl rfl 79 _ (Whole.fresh _ _ _) size_place rfl (place_one _ _) ?_; intro W5 hw5 ho5)
        have HB5 := Lib.hid (ho5.below (HB4.out.alloc HB4.out.size _) HB4.out.size)
        clear hw5 ho5
        go_wp2
        go_ret
        exact ⟨by rw [HST.out]; rfl, HB5.out⟩
    · have hje : j = n := by omega
      obtain ⟨f, hf⟩ : ∃ f : Nat → Bool, f = fun i => bs.getD i false := ⟨_, rfl⟩
      obtain ⟨u, hu⟩ : ∃ u : Nat → Bool, u = firstN (2 * k) := ⟨_, rfl⟩
      have HEN : Hid (Q = samePlace (f 0) (f 1) (f 2) (f 3) (f 4) (f 5) (f 6) (f 7) t (u 0) (u 1) (u 2) (u 3) (u 4) (u 5) (u 6) (u 7) true) := by
        show _ = _
        have h := sameBits_ext (bs := bs) (cs := trues (2 * k)) (HBS.out.trans (trues_len _).symm) (by have := HBS.out; omega)
        simp only [trues_at] at h
        rw [HPL.out, List.drop_eq_nil_of_le (by rw [HLS.out]; have := HZ.out; omega), playP]
        simp only [samePlace, hf, hu, h]
        simp
      rw [place_nine9, ← hf] at hPl
      obtain ⟨p0, p1, p2, p3, p4, p5, p6, p7⟩ := row8_of hPl
      have p8 : wr.cell? ⟨W0.heap.size, 8, none⟩ = some (.bool t) := hPl.cell 8
      have r0 : wr.cell? ⟨w.heap.size, 9, none⟩ = some (.bool (u 0)) := by rw [hu]; exact hR.cell 9
      have r1 : wr.cell? ⟨w.heap.size, 10, none⟩ = some (.bool (u 1)) := by rw [hu]; exact hR.cell 10
      have r2 : wr.cell? ⟨w.heap.size, 11, none⟩ = some (.bool (u 2)) := by rw [hu]; exact hR.cell 11
      have r3 : wr.cell? ⟨w.heap.size, 12, none⟩ = some (.bool (u 3)) := by rw [hu]; exact hR.cell 12
      have r4 : wr.cell? ⟨w.heap.size, 13, none⟩ = some (.bool (u 4)) := by rw [hu]; exact hR.cell 13
      have r5 : wr.cell? ⟨w.heap.size, 14, none⟩ = some (.bool (u 5)) := by rw [hu]; exact hR.cell 14
      have r6 : wr.cell? ⟨w.heap.size, 15, none⟩ = some (.bool (u 6)) := by rw [hu]; exact hR.cell 15
      have r7 : wr.cell? ⟨w.heap.size, 16, none⟩ = some (.bool (u 7)) := by rw [hu]; exact hR.cell 16
      have r8 : wr.cell? ⟨w.heap.size, 17, none⟩ = some (.bool true) := hR.cell 17
      clear hR hPl hb hje hf hu
      go_wp2
      go_ret
      exact ⟨by rw [HEN.out]; rfl, HB.out⟩
end Go.Proofs.Ytoedcieofjcgkaa

namespace Go.Proofs.Ytoedcieofjcgkaa
open Go.RowKit

set_option maxHeartbeats 12800000 in
set_option maxRecDepth 100000 in
theorem implIsCalmPlan_any (D : Option Addr) (n z : Nat) (a b : Int) (rs : List RowV) (w : World) (hD : Grid w D rs) (hz : rs.length = n) (hn : n ≤ 9223372036854775807) :
    Calls Try.prog 19 #[.agg #[.int .i64 a, .int .i64 b], .slice D n z] w (TwoTold (isCP a b (rowNums rs)) (cpOk a b (rowNums rs)) w) := by
  have HZ := Lib.hid hz
  have HLS := Lib.hid (rowNums_len rs)
  have hD2 := hD.alloc (.cells #[.int .i64 a, .int .i64 b] 28)
  have h0 := Whole.fresh w 28 #[.int .i64 a, .int .i64 b]
  have hbw := below1 w (.cells #[.int .i64 a, .int .i64 b] 28)
  clear hz
  cases hp : isCo a b
  · have HP := Lib.hid hp
    have HF := Lib.hid (cp_no (ls := rowNums rs) (.inl hp))
    clear hp
    go_enter Try.func19, Try.ntmps19
    go_wp2_with fail
    refine (isCompany_any a b _).mono ?_
    rintro e w1 ⟨rfl, hb⟩
    rw [HP.out]
    have ht := below_then hbw hb (by simp)
    clear hb
    go_wp2
    go_ret2
    exact ⟨by rw [HF.out.1, HF.out.2]; rfl, ht⟩
  obtain ⟨⟨ha1, ha4⟩, hb1, hb4⟩ := isCo_iff.1 hp
  obtain ⟨k, rfl⟩ : ∃ k : Nat, a = k := ⟨a.toNat, by omega⟩
  obtain ⟨q, rfl⟩ : ∃ q : Nat, b = q := ⟨b.toNat, by omega⟩
  have HP := Lib.hid hp
  have hk : k ≤ 4 := by omega
  have hq : q ≤ 4 := by omega
  by_cases h40 : 40 < n
  · have hd : decide ((n : Int) > 40) = true := by simp; omega
    have HF := Lib.hid (cp_no (a := k) (b := q) (ls := rowNums rs) (.inr (by have := HLS.out; have := HZ.out; omega)))
    clear hp
    go_enter Try.func19, Try.ntmps19
    go_wp2_with fail
    refine (isCompany_any k q _).mono ?_
    rintro e w1 ⟨rfl, hb⟩
    rw [HP.out]
    have ht := below_then hbw hb (by simp)
    clear hb
    go_wp2
    go_ret2
    exact ⟨by rw [HF.out.1, HF.out.2]; rfl, ht⟩
  have hd : decide ((n : Int) > 40) = false := by simp; omega
  obtain ⟨P, hP⟩ : ∃ P : Bool, P = playP k q (falses (2 * k)) false (rowNums rs) := ⟨_, rfl⟩
  have HF : Hid (cpOk k q (rowNums rs) = true ∧ isCP k q (rowNums rs) = P) := by
    have h := cp_yes (ls := rowNums rs) hp (by have := HLS.out; have := HZ.out; omega)
    refine ⟨h.1, ?_⟩
    rw [h.2, hP, ← plan_play hk _ _ _ (falses_len _), code_first]
  have HPP := Lib.hid hP
  clear hp hP
  go_enter Try.func19, Try.ntmps19
  go_wp2_with fail
  refine (isCompany_any k q _).mono ?_
  rintro e w0 ⟨rfl, hb⟩
  rw [HP.out]
  have ht := below_then hbw hb (by simp)
  have hD3 := hD2.below hb
  obtain ⟨c0, c1, -, -⟩ := (h0.below hb).two
  clear hb
  go_wp2_with fail
  refine (companyRiver_any k q _ hk hq).mono ?_
  rintro e w1 ⟨gG, gC, g1, g3, g4, g, A, c, rfl, hF, hb⟩
  have HT := Lib.hid (below_then ht hb ht.size)
  have HD := Lib.hid (hD3.below hb)
  have HRF := Lib.hid hF
  clear ht hb hF hD3 hD2 c0 c1 h0 hbw
  go_wp2_with fail
  refine (leadsOver_any k q gG gC g1 g3 g4 g A c D n z rs w1 hk HRF.out HD.out HZ.out hn (by omega)).mono ?_
  rintro e w2 ⟨rfl, hb⟩
  rw [← HPP.out]
  go_wp2
  go_ret2
  exact ⟨by rw [HF.out.1, HF.out.2]; rfl, below_then HT.out hb HT.out.size⟩
theorem specIsCalmPlan_on (D : Option Addr) (n z : Nat) (a b : Int) (rs : List RowV) (ls : List (List Int)) (w : World) (hD : Grid w D rs) (he : rowNums rs = ls) (hz : rs.length = n) (hn : n ≤ 9223372036854775807) :
    Calls Try.prog 16 #[.agg #[.int .i64 a, .int .i64 b], .slice D n z] w (TwoTold (isCP a b ls) (cpOk a b ls) w) := by
  subst he
  exact specIsCalmPlan_any D n z a b rs w hD hz hn
theorem implIsCalmPlan_on (D : Option Addr) (n z : Nat) (a b : Int) (rs : List RowV) (ls : List (List Int)) (w : World) (hD : Grid w D rs) (he : rowNums rs = ls) (hz : rs.length = n) (hn : n ≤ 9223372036854775807) :
    Calls Try.prog 19 #[.agg #[.int .i64 a, .int .i64 b], .slice D n z] w (TwoTold (isCP a b ls) (cpOk a b ls) w) := by
  subst he
  exact implIsCalmPlan_any D n z a b rs w hD hz hn
end Go.Proofs.Ytoedcieofjcgkaa

namespace Go.Proofs.Ytoedcieofjcgkaa
open Go.RowKit

set_option maxHeartbeats 800000 in
set_option linter.unusedVariables false in
theorem lawIsCalmPlan_big0 (k0 : Int) (k1 : Int) (A0 : Option Addr) (n0 c0 : Nat) (x0 : List RowV) (w : World) (h0 : Grid w A0 x0) (hx0 : x0.length = n0) (hn0 : n0 ≤ 9223372036854775807)  (hbig : 1048576 - (total x0 : Int) < 0) :
    Calls Try.prog 3 #[.agg #[.int .i64 k0, .int .i64 k1], .slice A0 n0 c0] w fun e w' => e = .returned (.bool true) ∧ Below w.heap.size w w' := by
  have hb0 := (Whole.fresh w 23 #[.int .i64 k0, .int .i64 k1])
  have ht := below1 w (.cells #[.int .i64 k0, .int .i64 k1] 23)
  have HX0 := Lib.hid hx0
  clear hx0
  obtain ⟨hb0_0, hb0_1⟩ := hb0.cells2
  have hb0_l := hb0.lt
  go_enter Try.func3, Try.ntmps3
  go_wp2_with fail
  refine (szIntSS_any A0 n0 c0 x0 (1048576) _ (by exact h0.below ht) HX0.out (by omega) (by omega) (by omega)).mono ?_
  rintro e v1 ⟨rfl, rfl⟩
  rw [totalLeft, if_pos (by omega)]
  clear hb0_0 hb0_1 hb0_l
  go_wp2
  go_ret
  exact ⟨rfl, ht⟩

set_option maxHeartbeats 12800000 in
set_option maxRecDepth 100000 in
set_option linter.unusedSimpArgs false in
set_option linter.unusedVariables false in
theorem lawIsCalmPlan_small (k0 : Int) (k1 : Int) (A0 : Option Addr) (n0 c0 : Nat) (x0 : List RowV) (w : World) (h0 : Grid w A0 x0) (hx0 : x0.length = n0) (hn0 : n0 ≤ 9223372036854775807) (g0 : 0 ≤ 1048576 - (total x0 : Int)) :
    Calls Try.prog 3 #[.agg #[.int .i64 k0, .int .i64 k1], .slice A0 n0 c0] w fun e w' => e = .returned (.bool true) ∧ Below w.heap.size w w' := by
  have hb0 := (Whole.fresh w 23 #[.int .i64 k0, .int .i64 k1])
  have ht := below1 w (.cells #[.int .i64 k0, .int .i64 k1] 23)
  have HX0 := Lib.hid hx0
  clear hx0
  obtain ⟨hb0_0, hb0_1⟩ := hb0.cells2
  have hb0_l := hb0.lt
  go_enter Try.func3, Try.ntmps3
  -- region 2
  go_wp2_with fail
  refine (szIntSS_any A0 n0 c0 x0 (1048576) _ (by exact h0.below ht) HX0.out (by omega) (by omega) (by omega)).mono ?_
  rintro e v1 ⟨rfl, rfl⟩
  rw [totalLeft, if_neg (by omega)]
  clear hb0_0 hb0_1 hb0_l
  obtain ⟨hb0_0, hb0_1⟩ := hb0.cells2
  have hb0_l := hb0.lt
  -- region 5
  go_wp2_with fail
  refine (toCompany_any k0 k1 _).mono ?_
  rintro e v1 ⟨rfl, hb⟩
  have hz1 : w.heap.size + 1 ≤ v1.heap.size := by have := hb.size; simpa using this
  replace ht := below_then ht hb ht.size
  replace hb0 := hb0.below hb
  clear hb
  clear hb0_0 hb0_1 hb0_l
  obtain ⟨hb0_0, hb0_1⟩ := hb0.cells2
  have hb0_l := hb0.lt
  go_wp2_with fail
  refine (toIntSS_any A0 n0 c0 x0 _ (by exact h0.below ht) HX0.out (by omega)).mono ?_
  rintro e v2 ⟨gp0, wsp0, rfl, hgp0, hwp0, hep0, hlp0, hb⟩
  have hz2 : v1.heap.size ≤ v2.heap.size := by have := hb.size; simpa using this
  replace ht := below_then ht hb ht.size
  replace hb0 := hb0.below hb
  have HEp0 := Lib.hid hep0
  have HLp0 := Lib.hid hlp0
  clear hep0 hlp0
  have hp0 := hwp0.free.more (lo' := v1.heap.size) (hi' := v2.heap.size) (by simpa using hgp0) (Nat.le_refl _)
  have hcapp0 : n0 ≤ 1048576 := by have := total_len x0; have := HX0.out; omega
  clear hgp0 hwp0
  clear hb
  clear hb0_0 hb0_1 hb0_l
  obtain ⟨hb0_0, hb0_1⟩ := hb0.cells2
  have hb0_l := hb0.lt
  go_wp2_with fail
  refine (specIsCalmPlan_on _ n0 _ k0 k1 wsp0 (rowNums x0) _ (by exact hp0.grid) HEp0.out HLp0.out (by omega)).mono ?_
  rintro e v3 ⟨rfl, hb⟩
  have hz3 : v2.heap.size ≤ v3.heap.size := by have := hb.size; simpa using this
  replace ht := below_then ht hb ht.size
  replace hb0 := hb0.below hb
  replace hp0 := hp0.below hb
  clear hb
  clear hp0
  clear hb0_0 hb0_1 hb0_l
  obtain ⟨hb0_0, hb0_1⟩ := hb0.cells2
  have hb0_l := hb0.lt
  -- region 6
  go_wp2_with fail
  refine (toIntSS_any A0 n0 c0 x0 _ (by exact h0.below ht) HX0.out (by omega)).mono ?_
  rintro e v4 ⟨gx0, wsx0, rfl, hgx0, hwx0, hex0, hlx0, hb⟩
  have hz4 : v3.heap.size ≤ v4.heap.size := by have := hb.size; simpa using this
  replace ht := below_then ht hb ht.size
  replace hb0 := hb0.below hb
  have HEx0 := Lib.hid hex0
  have HLx0 := Lib.hid hlx0
  clear hex0 hlx0
  have hx0 := hwx0.free.more (lo' := v3.heap.size) (hi' := v4.heap.size) (by simpa using hgx0) (Nat.le_refl _)
  have hcapx0 : n0 ≤ 1048576 := by have := total_len x0; have := HX0.out; omega
  clear hgx0 hwx0
  clear hb
  clear hb0_0 hb0_1 hb0_l
  obtain ⟨hb0_0, hb0_1⟩ := hb0.cells2
  have hb0_l := hb0.lt
  -- region 7
  go_wp2_with fail
  refine (toCompany_any k0 k1 _).mono ?_
  rintro e v5 ⟨rfl, hb⟩
  have hz5 : v4.heap.size ≤ v5.heap.size := by have := hb.size; simpa using this
  replace ht := below_then ht hb ht.size
  replace hb0 := hb0.below hb
  replace hx0 := hx0.below hb
  clear hb
  clear hb0_0 hb0_1 hb0_l
  obtain ⟨hb0_0, hb0_1⟩ := hb0.cells2
  have hb0_l := hb0.lt
  go_wp2_with fail
  refine (implIsCalmPlan_on _ n0 _ k0 k1 wsx0 (rowNums x0) _ (by exact hx0.grid) HEx0.out HLx0.out (by omega)).mono ?_
  rintro e v6 ⟨rfl, hb⟩
  have hz6 : v5.heap.size ≤ v6.heap.size := by have := hb.size; simpa using this
  replace ht := below_then ht hb ht.size
  replace hb0 := hb0.below hb
  replace hx0 := hx0.below hb
  clear hb
  clear hb0_0 hb0_1 hb0_l
  obtain ⟨hb0_0, hb0_1⟩ := hb0.cells2
  have hb0_l := hb0.lt
  -- region 10
  go_wp2_with fail
  refine (toIntSS_any A0 n0 c0 x0 _ (by exact h0.below ht) HX0.out (by omega)).mono ?_
  rintro e v7 ⟨gy0, wsy0, rfl, hgy0, hwy0, hey0, hly0, hb⟩
  have hz7 : v6.heap.size ≤ v7.heap.size := by have := hb.size; simpa using this
  replace ht := below_then ht hb ht.size
  replace hb0 := hb0.below hb
  replace hx0 := hx0.below hb
  have HEy0 := Lib.hid hey0
  have HLy0 := Lib.hid hly0
  clear hey0 hly0
  have hy0 := hwy0.free.more (lo' := v6.heap.size) (hi' := v7.heap.size) (by simpa using hgy0) (Nat.le_refl _)
  have hcapy0 : n0 ≤ 1048576 := by have := total_len x0; have := HX0.out; omega
  clear hgy0 hwy0
  clear hb
  clear hb0_0 hb0_1 hb0_l
  obtain ⟨hb0_0, hb0_1⟩ := hb0.cells2
  have hb0_l := hb0.lt
  go_wp2_with fail
  refine (eqIntSS_yes _ _ n0 n0 _ _ wsx0 wsy0 _ (by exact hx0.grid) (by exact hy0.grid) (by rw [HEx0.out, HEy0.out]) HLx0.out HLy0.out (by omega)).mono ?_
  rintro e v8 ⟨rfl, hb⟩
  have hz8 : v7.heap.size ≤ v8.heap.size := by have := hb.size; simpa using this
  replace ht := below_then ht hb ht.size
  replace hb0 := hb0.below hb
  replace hx0 := hx0.below hb
  replace hy0 := hy0.below hb
  clear hb
  clear hy0
  clear hb0_0 hb0_1 hb0_l
  obtain ⟨hb0_0, hb0_1⟩ := hb0.cells2
  have hb0_l := hb0.lt
  go_wp2
  go_ret
  exact ⟨rfl, ht⟩

theorem lawIsCalmPlan_all (k0 : Int) (k1 : Int) (A0 : Option Addr) (n0 c0 : Nat) (x0 : List RowV) (w : World) (h0 : Grid w A0 x0) (hx0 : x0.length = n0) (hn0 : n0 ≤ 9223372036854775807) :
    Calls Try.prog 3 #[.agg #[.int .i64 k0, .int .i64 k1], .slice A0 n0 c0] w fun e w' => e = .returned (.bool true) ∧ Below w.heap.size w w' := by
  rcases (inferInstance : Decidable (0 ≤ 1048576 - (total x0 : Int))) with g0 | g0
  · exact lawIsCalmPlan_big0 k0 k1 A0 n0 c0 x0 w h0 hx0 hn0  (by omega)
  exact lawIsCalmPlan_small k0 k1 A0 n0 c0 x0 w h0 hx0 hn0 g0
end Go.Proofs.Ytoedcieofjcgkaa
