/-
  What is proved: contracts of the model's and the program's tests of a company, and of the law's copy of one. Conditions: none.
-/
import Derived.Test.YteeolclnoblkcaaParty
namespace Go.Proofs.Yteeolclnoblkcaa
open Go.RowKit

/-- A company, told in plain words. -/
def isCo (a b : Int) : Bool := within a 1 4 && within b 1 4
theorem isCo_no {a b : Int} (h : a < 1 ∨ 4 < a ∨ b < 1 ∨ 4 < b) : isCo a b = false := by
  cases h1 : isCo a b
  · rfl
  · simp only [isCo, Bool.and_eq_true, within_iff] at h1
    omega
theorem isCo_yes {a b : Int} (h1 : 1 ≤ a) (h2 : a ≤ 4) (h3 : 1 ≤ b) (h4 : b ≤ 4) : isCo a b = true := by
  simp [isCo, within_yes h1 h2, within_yes h3 h4]
theorem isCo_iff {a b : Int} : isCo a b = true ↔ (1 ≤ a ∧ a ≤ 4) ∧ 1 ≤ b ∧ b ≤ 4 := by
  simp only [isCo, Bool.and_eq_true, within_iff]

set_option maxHeartbeats 400000 in
theorem cuGood_any (a b : Int) (w : World) :
    Calls Try.prog 53 #[.agg #[.int .i64 a, .int .i64 b]] w fun e w' => e = .returned (.bool (isCo a b)) ∧ Below w.heap.size w w' := by
  cases h1 : within a 1 4
  · have HP : Hid (isCo a b = false) := by show _ = _; simp [isCo, h1]
    have H1 := Lib.hid h1
    clear h1
    go_enter Try.func53, Try.ntmps53
    go_wp2_with fail
    refine (l1In_any _ _ _ _).mono ?_
    rintro e w' ⟨rfl, rfl⟩
    rw [H1.out]
    go_wp2
    go_ret
    exact ⟨ret_of (by rw [HP.out]; rfl), below1 w _⟩
  · have HP : Hid (isCo a b = within b 1 4) := by show _ = _; simp [isCo, h1]
    have H1 := Lib.hid h1
    clear h1
    go_enter Try.func53, Try.ntmps53
    go_wp2_with fail
    refine (l1In_any _ _ _ _).mono ?_
    rintro e w' ⟨rfl, rfl⟩
    rw [H1.out]
    go_wp2_with fail
    refine (l1In_any _ _ _ _).mono ?_
    rintro e w' ⟨rfl, rfl⟩
    go_wp2
    go_ret
    exact ⟨ret_of (by rw [HP.out]; rfl), below1 w _⟩

set_option maxHeartbeats 400000 in
theorem specIsCompany_any (a b : Int) (w : World) :
    Calls Try.prog 15 #[.agg #[.int .i64 a, .int .i64 b]] w fun e w' => e = .returned (.bool (isCo a b)) ∧ Below w.heap.size w w' := by
  go_enter Try.func15, Try.ntmps15
  go_wp2_with fail
  refine (cuGood_any a b _).mono ?_
  rintro e w' ⟨rfl, hb⟩
  have ht := below_then (below1 w _) hb (by simp)
  clear hb
  go_wp2
  go_ret
  exact ⟨rfl, ht⟩

set_option maxHeartbeats 400000 in
theorem isCompany_any (a b : Int) (w : World) :
    Calls Try.prog 17 #[.agg #[.int .i64 a, .int .i64 b]] w fun e w' => e = .returned (.bool (isCo a b)) ∧ Below w.heap.size w w' := by
  by_cases h1 : 1 ≤ a
  · by_cases h2 : a ≤ 4
    · by_cases h3 : 1 ≤ b
      · by_cases h4 : b ≤ 4
        · have HW := Lib.hid (isCo_yes h1 h2 h3 h4)
          go_enter Try.func17, Try.ntmps17
          go_wp2
          go_ret
          exact ⟨ret_of (by rw [HW.out]; rfl), below1 w _⟩
        · have HW := Lib.hid (isCo_no (a := a) (b := b) (by omega))
          go_enter Try.func17, Try.ntmps17
          go_wp2
          go_ret
          exact ⟨ret_of (by rw [HW.out]; rfl), below1 w _⟩
      · have HW := Lib.hid (isCo_no (a := a) (b := b) (by omega))
        go_enter Try.func17, Try.ntmps17
        go_wp2
        go_ret
        exact ⟨ret_of (by rw [HW.out]; rfl), below1 w _⟩
    · have HW := Lib.hid (isCo_no (a := a) (b := b) (by omega))
      go_enter Try.func17, Try.ntmps17
      go_wp2
      go_ret
      exact ⟨ret_of (by rw [HW.out]; rfl), below1 w _⟩
  · have HW := Lib.hid (isCo_no (a := a) (b := b) (by omega))
    go_enter Try.func17, Try.ntmps17
    go_wp2
    go_ret
    exact ⟨ret_of (by rw [HW.out]; rfl), below1 w _⟩

set_option maxHeartbeats 400000 in
theorem toCompany_any (a b : Int) (w : World) :
    Calls Try.prog 16 #[.agg #[.int .i64 a, .int .i64 b]] w fun e w' => e = .returned (.agg #[.int .i64 a, .int .i64 b]) ∧ Below w.heap.size w w' := by
  go_enter Try.func16, Try.ntmps16
  go_wp2
  refine bodyPost_ret (v := .agg #[.int .i64 a, .int .i64 b]) (by simp [results, Try.results16, go_sem]) rfl ⟨rfl, ?_⟩
  exact below3 _ _ _ _

set_option maxHeartbeats 400000 in
theorem lawIsCompany_all (a b : Int) (w : World) :
    Calls Try.prog 3 #[.agg #[.int .i64 a, .int .i64 b]] w fun e w' => e = .returned (.bool true) ∧ Below w.heap.size w w' := by
  have hc := Whole.fresh w 23 #[.int .i64 a, .int .i64 b]
  have hbb : (isCo a b != isCo a b) = false := by simp
  go_enter Try.func3, Try.ntmps3
  go_wp2_with fail
  refine (toCompany_any a b _).mono ?_
  rintro e w1 ⟨rfl, hb⟩
  have ht := below_then (below1 w _) hb (by simp)
  replace hc := hc.below hb
  clear hb
  obtain ⟨c0, c1, -, -⟩ := hc.two
  go_wp2_with fail
  refine (specIsCompany_any a b _).mono ?_
  rintro e w2 ⟨rfl, hb⟩
  replace ht := below_then ht hb ht.size
  replace hc := hc.below hb
  clear hb c0 c1
  obtain ⟨c0, c1, -, -⟩ := hc.two
  go_wp2_with fail
  refine (toCompany_any a b _).mono ?_
  rintro e w3 ⟨rfl, hb⟩
  replace ht := below_then ht hb ht.size
  clear hb c0 c1
  go_wp2_with fail
  refine (isCompany_any a b _).mono ?_
  rintro e w4 ⟨rfl, hb⟩
  replace ht := below_then ht hb ht.size
  clear hb
  go_wp2
  go_ret
  exact ⟨rfl, ht⟩
end Go.Proofs.Yteeolclnoblkcaa
