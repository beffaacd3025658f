/-
  What is proved: contracts of the model's and of the program's IsCalmGroup. Conditions: the lists are read as they lie.
-/
import Derived.Test.YteeolclnoblkcaaCalmG
import Derived.Deep.RegionHeld3
import Derived.Deep.DeepCutAuto
namespace Go.Proofs.Yteeolclnoblkcaa
open Go.RowKit

theorem steps_ge {l : List Int} {hi : Int} (h : StepsTo l hi l.length) : ∀ k, k < l.length → (k : Int) ≤ l.getD k 0
  | 0, hk => (h 0 hk).1
  | k + 1, hk => by
    have h1 := steps_ge h k (by omega)
    rcases (h (k + 1) hk).2.2 with h2 | h2
    · omega
    · rw [Nat.add_sub_cancel] at h2; omega
theorem steps_len {l : List Int} {hi : Int} (h : StepsTo l hi l.length) (h0 : 0 < l.length) : (l.length : Int) ≤ hi + 1 := by
  have h1 := steps_ge h (l.length - 1) (by omega)
  have h2 := (h (l.length - 1) (by omega)).2.1
  omega
theorem trip_rising {l : List Int} {c : Nat} (h0 : 0 < l.length) : isTrip (2 * c) (2 * (c : Int)) l = rising l (2 * c - 1) := by
  unfold isTrip
  have hc : (((2 * c : Nat) : Int) - 1) = 2 * c - 1 := by omega
  rw [hc]
  cases h : rising l (2 * c - 1)
  · simp
  · have := steps_len (rising_steps h) h0
    rw [within_yes (by omega) (by omega)]; rfl

/-- There is a group of so many couples. -/
noncomputable def isGroup (c : Int) (l : List Int) : Bool := within c 1 4 && rising l (2 * c - 1)
/-- What IsCalmGroup hands back. -/
noncomputable def calmOf (c : Int) (l : List Int) : Bool := isGroup c l && calm c.toNat (has l)
theorem group_no {c : Int} {l : List Int} (h : within c 1 4 = false) : isGroup c l = false := by simp [isGroup, h]
theorem group_no2 {c : Int} {l : List Int} (h : rising l (2 * c - 1) = false) : isGroup c l = false := by simp [isGroup, h]
theorem group_yes {c : Int} {l : List Int} (h : within c 1 4 = true) (h2 : rising l (2 * c - 1) = true) : isGroup c l = true := by simp [isGroup, h, h2]
theorem calmOf_no {c : Int} {l : List Int} (h : isGroup c l = false) : calmOf c l = false := by simp [calmOf, h]
theorem calmOf_yes {c : Nat} {l : List Int} (h : isGroup c l = true) : calmOf c l = calm c (has l) := by simp [calmOf, h]
theorem calm_mask {c : Nat} {l : List Int} {hi : Int} (hs : StepsTo l hi l.length) : calm c (bitAt (maskOf l)) = calm c (has l) :=
  calm_congr fun i _ => mask_bit l (fun _ hx => (mem_steps hs hx).1) i

set_option maxHeartbeats 1600000 in
theorem specIsCalmGroup_any (c : Int) (A : Option Addr) (n d : Nat) (l : List Int) (w : World) (hA : Holds w A (nums l)) (hx : l.length = n) (hn : n ≤ 9223372036854775807) :
    Calls Try.prog 18 #[.int .i64 c, .slice A n d] w fun e w' => e = .returned (.tuple #[.bool (calmOf c l), .bool (isGroup c l)]) ∧ w = w' := by
  have HX := Lib.hid hx
  clear hx
  cases h1 : within c 1 4
  · have HG := Lib.hid (group_no (l := l) h1)
    have HC := Lib.hid (calmOf_no HG.out)
    have H1 := Lib.hid h1
    clear h1
    go_enter Try.func18, Try.ntmps18
    go_wp2_with fail
    refine (l1In_any _ _ _ _).mono ?_
    rintro e w' ⟨rfl, rfl⟩
    rw [H1.out]
    go_wp2
    go_ret2
    exact ⟨by rw [HG.out, HC.out]; rfl, rfl⟩
  · have hb := within_iff.1 h1
    obtain ⟨b1, b2⟩ := hb
    obtain ⟨k, rfl⟩ := Int.eq_ofNat_of_zero_le (show 0 ≤ c by omega)
    cases h2 : rising l (2 * k - 1)
    · have HG := Lib.hid (group_no2 h2)
      have HC := Lib.hid (calmOf_no HG.out)
      have H1 := Lib.hid h1
      have H2 := Lib.hid h2
      clear h1 h2
      go_enter Try.func18, Try.ntmps18
      go_wp2_with fail
      refine (l1In_any _ _ _ _).mono ?_
      rintro e w' ⟨rfl, rfl⟩
      rw [H1.out]
      go_wp2_with fail
      refine (l1Rising_any A n d l _ _ hA HX.out hn).mono ?_
      rintro e w' ⟨rfl, rfl⟩
      rw [H2.out]
      go_wp2
      go_ret2
      exact ⟨by rw [HG.out, HC.out]; rfl, rfl⟩
    · have hs := rising_steps h2
      have HG := Lib.hid (group_yes h1 h2)
      have HC := Lib.hid ((calm_mask (c := k) hs).trans (calmOf_yes HG.out).symm)
      have HS := Lib.hid hs
      have H1 := Lib.hid h1
      have H2 := Lib.hid h2
      clear h1 h2 hs
      go_enter Try.func18, Try.ntmps18
      go_wp2_with fail
      refine (l1In_any _ _ _ _).mono ?_
      rintro e w' ⟨rfl, rfl⟩
      rw [H1.out]
      go_wp2_with fail
      refine (l1Rising_any A n d l _ _ hA HX.out hn).mono ?_
      rintro e w' ⟨rfl, rfl⟩
      rw [H2.out]
      go_wp2_with fail
      refine (cuBits_any A n d l _ _ hA HX.out hn HS.out (by omega)).mono ?_
      rintro e w' ⟨rfl, rfl⟩
      go_wp2_with fail
      refine (cuCalm_any k _ _ (by omega)).mono ?_
      rintro e w' ⟨rfl, rfl⟩
      rw [HC.out]
      go_wp2
      go_ret2
      exact ⟨by rw [HG.out]; rfl, rfl⟩

theorem specIsCalmGroup_b (c : Int) (A : Option Addr) (n d : Nat) (l : List Int) (w : World) (hA : Holds w A (nums l)) (hx : l.length = n) (hn : n ≤ 9223372036854775807) :
    Calls Try.prog 18 #[.int .i64 c, .slice A n d] w fun e w' => e = .returned (.tuple #[.bool (calmOf c l), .bool (isGroup c l)]) ∧ Below w.heap.size w w' :=
  (specIsCalmGroup_any c A n d l w hA hx hn).mono fun _ _ ⟨he, hw⟩ => ⟨he, hw ▸ Below.refl _ _⟩

set_option maxHeartbeats 400000 in
theorem calmGroups_any (c : Int) (w : World) :
    Calls Try.prog 59 #[.int .i64 c] w fun e w' => e = .returned (.func (.func 94) #[] #[.pointer (some ⟨w.heap.size, 0, none⟩)]) ∧ w' = w.alloc (.cells #[.int .i64 c] 3) := by
  have hmf : ∀ (fn : Fn) (first cap : Array Value) (w : World), (Instr.makeFunc fn first cap).run Try.prog w = .ok (.func fn first cap) w := fun _ _ _ _ => rfl
  go_enter Try.func59, Try.ntmps59
  go_wp2
  go_ret
  exact ⟨rfl, rfl⟩

set_option maxHeartbeats 1600000 in
theorem implIsCalmGroup_any (c : Int) (A : Option Addr) (n d : Nat) (l : List Int) (w : World) (hA : Holds w A (nums l)) (hx : l.length = n) (hn : n ≤ 9223372036854775807) :
    Calls Try.prog 20 #[.int .i64 c, .slice A n d] w fun e w' => e = .returned (.tuple #[.bool (calmOf c l), .bool (isGroup c l)]) ∧ Below w.heap.size w w' := by
  have HX := Lib.hid hx
  cases h1 : within c 1 4
  · have HG := Lib.hid (group_no (l := l) h1)
    have HC := Lib.hid (calmOf_no HG.out)
    have hb := within_false h1
    clear h1 hx
    by_cases hc1 : c < 1
    · go_enter Try.func20, Try.ntmps20
      go_wp2
      go_ret2
      exact ⟨by rw [HG.out, HC.out]; rfl, Below.refl _ _⟩
    · have hc4 : 4 < c := by omega
      go_enter Try.func20, Try.ntmps20
      go_wp2
      go_ret2
      exact ⟨by rw [HG.out, HC.out]; rfl, Below.refl _ _⟩
  · have hb := within_iff.1 h1
    obtain ⟨b1, b2⟩ := hb
    obtain ⟨k, rfl⟩ := Int.eq_ofNat_of_zero_le (show 0 ≤ c by omega)
    by_cases h0 : n = 0
    · have hl : l = [] := List.length_eq_zero_iff.1 (by omega)
      subst hl h0
      have HG := Lib.hid (group_yes h1 (rising_yes (StepsTo.start [] (2 * (k : Int) - 1)) (Nat.zero_le _)))
      have hk4 : k = 1 ∨ k = 2 ∨ k = 3 ∨ k = 4 := by omega
      have HC : Hid (calmOf k [] = true) := by show _ = _; rw [calmOf_yes HG.out]; rcases hk4 with rfl | rfl | rfl | rfl <;> rfl
      clear h1 hx hk4
      go_enter Try.func20, Try.ntmps20
      go_wp2
      go_ret2
      exact ⟨by rw [HG.out, HC.out]; rfl, Below.refl _ _⟩
    · have hl0 : 0 < l.length := by omega
      have hne : ((n : Int) == 0) = false := by simpa using h0
      have ht := trip_rising (c := k) hl0
      have HR : Hid (isGroup k l = rising l (2 * k - 1)) := by show _ = _; simp [isGroup, h1]
      have HT := Lib.hid ht
      clear h1 hx ht h0
      go_enter Try.func20, Try.ntmps20
      go_wp2_with fail
      have hcr := crowdOf_any A (2 * k) n d l (2 * (k : Int)) w hA HX.out hn (by omega)
      rw [show (((2 * k : Nat)) : Int) = 2 * (k : Int) by omega] at hcr
      refine hcr.mono ?_
      clear hcr
      rintro e w1 ⟨⟨htr, rfl⟩ | ⟨htr, rfl⟩, hb1⟩
      · rw [HT.out] at htr
        have HG := Lib.hid (HR.out.trans htr)
        have HC := Lib.hid (calmOf_yes HG.out)
        have h0 := Whole.fresh w1 69 (crowdCells l)
        obtain ⟨a0, a1, a2, a3, a4, a5, a6, a7⟩ := crowd_cells h0
        have ht := below_then hb1 (below1 w1 (.cells (crowdCells l) 69)) hb1.size
        have hbx := Whole.fresh (w1.alloc (.cells (crowdCells l) 69)) 3 #[.int .i64 k]
        rw [World.size_alloc] at hbx
        have HX2 : Hid (((w1.alloc (.cells (crowdCells l) 69)).alloc (.cells #[.int .i64 k] 3)).cell? ⟨w1.heap.size + 1, 0, none⟩ = some (.int .i64 k)) := hbx.cell 0
        have HH := Lib.hid h0
        have HB := Lib.hid (ht.alloc ht.size (.cells #[.int .i64 k] 3))
        clear htr h0 ht hbx
        unfold crowdCells
        go_wp2_with fail
        go_region_held3 (fun w' => w'.cell? ⟨w1.heap.size, 0, none⟩ = some (.bool (has l 0)) ∧ w'.cell? ⟨w1.heap.size, 1, none⟩ = some (.bool (has l 1)) ∧ w'.cell? ⟨w1.heap.size, 2, none⟩ = some (.bool (has l 2)) ∧ w'.cell? ⟨w1.heap.size, 3, none⟩ = some (.bool (has l 3)) ∧ w'.cell? ⟨w1.heap.size, 4, none⟩ = some (.bool (has l 4)) ∧ w'.cell? ⟨w1.heap.size, 5, none⟩ = some (.bool (has l 5)) ∧ w'.cell? ⟨w1.heap.size, 6, none⟩ = some (.bool (has l 6)) ∧ w'.cell? ⟨w1.heap.size, 7, none⟩ = some (.bool (has l 7))) (go_keep)
          (first | (go_at_call 59; refine (calmGroups_any _ _).mono ?_; rintro e w2 ⟨rfl, rfl⟩; obtain ⟨e0, e1, e2, e3, e4, e5, e6, e7⟩ := crowd_cells (HH.out.drew.alloc (.cells #[.int .i64 k] 3))) | (go_at_call 94; refine (calmClosure_any k (w1.heap.size + 1) (has l) _ (by omega) (by exact HX2.out) (by simp)).mono ?_; rintro e w3 ⟨rfl, hb3⟩; rw [← HC.out]; have HB3 := Lib.hid (below_then HB.out.drew hb3 HB.out.size); obtain ⟨g0, g1, g2, g3, g4, g5, g6, g7⟩ := crowd_cells ((HH.out.alloc (.cells #[.int .i64 k] 3)).drew.below hb3); clear hb3) | fail)
        go_wp2
        go_ret2
        exact ⟨by rw [HG.out]; rfl, HB3.out⟩
      · rw [HT.out] at htr
        have HG := Lib.hid (HR.out.trans htr)
        have HC := Lib.hid (calmOf_no HG.out)
        clear htr
        unfold crowdCells
        go_wp2
        go_quiet (fail)
        go_wp2
        go_ret2
        exact ⟨by rw [HG.out, HC.out]; rfl, below_draws (below_then hb1 (below1 w1 _) hb1.size) _⟩
end Go.Proofs.Yteeolclnoblkcaa
