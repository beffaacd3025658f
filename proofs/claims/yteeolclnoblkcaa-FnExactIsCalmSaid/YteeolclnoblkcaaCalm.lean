/-
  What is proved: contracts of the model's and the program's tests of a calm group. Conditions: at most four couples.
-/
import Derived.Test.YteeolclnoblkcaaBits
import Derived.Test.YteeolclnoblkcaaCrowdOf
import Derived.Deep.LoopGhost
namespace Go.Proofs.Yteeolclnoblkcaa
open Go.RowKit

/-- Is some keeper of the first k couples there; is some kept one of them without its own. -/
def keepTo (f : Nat → Bool) : Nat → Bool
  | 0 => false
  | k + 1 => keepTo f k || f (2 * k)
def leftTo (f : Nat → Bool) : Nat → Bool
  | 0 => false
  | k + 1 => leftTo f k || (f (2 * k + 1) && !f (2 * k))
/-- A calm group of so many couples. -/
def calm (c : Nat) (f : Nat → Bool) : Bool := !keepTo f c || !leftTo f c
theorem keep_yes {f : Nat → Bool} {k : Nat} (h : f (2 * k) = true) : ∀ {c : Nat}, k < c → keepTo f c = true
  | 0, hc => absurd hc (by omega)
  | c + 1, hc => by
    rcases Nat.lt_succ_iff_lt_or_eq.1 hc with h1 | rfl
    · simp [keepTo, keep_yes h h1]
    · simp [keepTo, h]
theorem left_yes {f : Nat → Bool} {k : Nat} (h : (f (2 * k + 1) && !f (2 * k)) = true) : ∀ {c : Nat}, k < c → leftTo f c = true
  | 0, hc => absurd hc (by omega)
  | c + 1, hc => by
    rcases Nat.lt_succ_iff_lt_or_eq.1 hc with h1 | rfl
    · simp [leftTo, left_yes h h1]
    · rw [leftTo, h, Bool.or_true]
theorem calm_no {f : Nat → Bool} {c : Nat} (h1 : keepTo f c = true) (h2 : leftTo f c = true) : calm c f = false := by simp [calm, h1, h2]
theorem calm_yes {f : Nat → Bool} {c : Nat} (h : leftTo f c = true → keepTo f c = false) : calm c f = true := by
  cases h2 : leftTo f c
  · simp [calm, h2]
  · simp [calm, h h2]
theorem keep_congr {f g : Nat → Bool} : ∀ {c : Nat}, (∀ i, i < 2 * c → f i = g i) → keepTo f c = keepTo g c
  | 0, _ => rfl
  | c + 1, h => by rw [keepTo, keepTo, keep_congr (fun i hi => h i (by omega)), h (2 * c) (by omega)]
theorem left_congr {f g : Nat → Bool} : ∀ {c : Nat}, (∀ i, i < 2 * c → f i = g i) → leftTo f c = leftTo g c
  | 0, _ => rfl
  | c + 1, h => by rw [leftTo, leftTo, left_congr (fun i hi => h i (by omega)), h (2 * c) (by omega), h (2 * c + 1) (by omega)]
theorem calm_congr {f g : Nat → Bool} {c : Nat} (h : ∀ i, i < 2 * c → f i = g i) : calm c f = calm c g := by rw [calm, calm, keep_congr h, left_congr h]

/-- The model's two tests at a number of bits. -/
theorem test4 (m k : Nat) : (((m : Int) / 2 ^ (2 * k)).tmod 4 != 2) = !(bitAt m (2 * k + 1) && !bitAt m (2 * k)) := by
  rw [shr_nat, Int.tmod_eq_emod_of_nonneg (Int.natCast_nonneg _), ← two_bits]
  generalize m / 2 ^ (2 * k) = x
  by_cases h : x % 4 = 2
  · have : ((x : Int) % 4) = 2 := by omega
    simp [h, this]
  · have : ((x : Int) % 4) ≠ 2 := by omega
    simp [h, this]
theorem test2 (m k : Nat) : (((m : Int) / 2 ^ (2 * k)).tmod 2 == 1) = bitAt m (2 * k) := by
  rw [shr_nat, Int.tmod_eq_emod_of_nonneg (Int.natCast_nonneg _), bitAt_def]
  generalize m / 2 ^ (2 * k) = x
  by_cases h : x % 2 = 1
  · have : ((x : Int) % 2) = 1 := by omega
    simp [h, this]
  · have : ((x : Int) % 2) ≠ 1 := by omega
    simp [h, this]
theorem test4_yes {m k : Nat} (h : (bitAt m (2 * k + 1) && !bitAt m (2 * k)) = true) : (((m : Int) / 2 ^ (2 * k)).tmod 4 != 2) = false := by rw [test4, h]; rfl
theorem test4_no {m k : Nat} (h : (bitAt m (2 * k + 1) && !bitAt m (2 * k)) = false) : (((m : Int) / 2 ^ (2 * k)).tmod 4 != 2) = true := by rw [test4, h]; rfl

theorem left_none {f : Nat → Bool} {k : Nat} {X : Prop} (hl : leftTo f k = true → X) (h : (f (2 * k + 1) && !f (2 * k)) = false) : leftTo f (k + 1) = true → X := by
  rw [leftTo, h, Bool.or_false]; exact hl
theorem keep_none {f : Nat → Bool} {j : Nat} (hk : keepTo f j = false) (h : f (2 * j) = false) : keepTo f (j + 1) = false := by rw [keepTo, hk, h]; rfl

set_option maxHeartbeats 1600000 in
theorem cuCalm_any (c m : Nat) (w : World) (hc : c ≤ 4) :
    Calls Try.prog 56 #[.int .i64 c, .int .i64 m] w fun e w' => e = .returned (.bool (calm c (bitAt m))) ∧ w = w' := by
  go_enter Try.func56, Try.ntmps56
  go_wp2
  go_loop [5] (fun i => ∃ k : Nat, k ≤ c ∧ i = .int .i64 k ∧ (leftTo (bitAt m) k = true → keepTo (bitAt m) c = false)) (fun i => c - (intOf i).toNat)
  case atStart => exact ⟨0, Nat.zero_le _, rfl, fun h => by cases h⟩
  case round =>
    obtain ⟨k, hk, rfl, hl⟩ := hrel
    have HL := Lib.hid hl
    clear hl
    by_cases hlt : k < c
    · have hd : decide ((k : Int) < c) = true := by simp; omega
      cases hb : (bitAt m (2 * k + 1) && !bitAt m (2 * k))
      · have ht := test4_no hb
        have HN := Lib.hid (left_none HL.out hb)
        clear hb
        go_wp2
        go_round
        case rel => exact ⟨k + 1, by omega, by go_num, HN.out⟩
        case measure => simp [intOf]; omega
      · have ht := test4_yes hb
        have HB := Lib.hid hb
        clear hb
        go_wp2
        go_loop [6] (fun i => ∃ j : Nat, j ≤ c ∧ i = .int .i64 j ∧ keepTo (bitAt m) j = false) (fun i => c - (intOf i).toNat)
        case atStart => exact ⟨0, Nat.zero_le _, rfl, rfl⟩
        case round =>
          obtain ⟨j, hj, rfl, hn⟩ := hrel
          have HK := Lib.hid hn
          clear hn
          by_cases hjc : j < c
          · have ht2 := test2 m j
            cases hb2 : bitAt m (2 * j)
            · rw [hb2] at ht2
              have HN := Lib.hid (keep_none HK.out hb2)
              clear hb2
              go_wp2
              go_round
              case rel => exact ⟨j + 1, by omega, by go_num, HN.out⟩
              case measure => simp [intOf]; omega
            · rw [hb2] at ht2
              have HN := Lib.hid (calm_no (keep_yes hb2 hjc) (left_yes HB.out hlt))
              clear hb2
              go_wp2
              go_ret
              exact ⟨ret_of (by rw [HN.out]; rfl), rfl⟩
          · obtain rfl : j = c := by omega
            go_wp2
            go_round
            case rel => exact ⟨k + 1, by omega, by go_num, fun _ => HK.out⟩
            case measure => simp [intOf]; omega
    · obtain rfl : k = c := by omega
      have HN := Lib.hid (calm_yes HL.out)
      go_wp2
      go_ret
      exact ⟨ret_of (by rw [HN.out]; rfl), rfl⟩

theorem snoc_ind {α : Type} {P : List α → Prop} (h0 : P []) (h1 : ∀ l x, P l → P (l ++ [x])) (l : List α) : P l := by
  suffices h : ∀ r : List α, P r.reverse by have := h l.reverse; rwa [List.reverse_reverse] at this
  intro r
  induction r with
  | nil => exact h0
  | cons x r ih => rw [List.reverse_cons]; exact h1 _ _ ih

/-- The people on a list, as bits. -/
def maskOf (l : List Int) : Nat := l.foldl (fun m k => m ||| 2 ^ k.toNat) 0
theorem mask_snoc (l : List Int) (x : Int) : maskOf (l ++ [x]) = maskOf l ||| 2 ^ x.toNat := by rw [maskOf, List.foldl_append]; rfl
theorem mask_next {l : List Int} {k : Nat} (hk : k < l.length) : maskOf (l.take (k + 1)) = maskOf (l.take k) ||| 2 ^ (l[k]).toNat := by
  rw [List.take_succ_eq_append_getElem hk, mask_snoc]
theorem mask_bit (l : List Int) : (∀ x ∈ l, 0 ≤ x) → ∀ i, bitAt (maskOf l) i = has l i := by
  induction l using snoc_ind with
  | h0 => intro _ i; simp [maskOf, has, bitAt]
  | h1 l x ih =>
    intro h i
    rw [mask_snoc, or_bit, ih (fun y hy => h y (by simp [hy])), has_snoc]
    congr 1
    have := h x (by simp)
    rw [Bool.eq_iff_iff]
    simp
    omega
theorem mask_lt {n : Nat} (hn : 0 < n) (l : List Int) : (∀ x ∈ l, x < n) → maskOf l < 2 ^ n := by
  induction l using snoc_ind with
  | h0 => intro _; simp [maskOf]; exact Nat.two_pow_pos n
  | h1 l x ih =>
    intro h
    rw [mask_snoc]
    refine Nat.or_lt_two_pow (ih (fun y hy => h y (by simp [hy]))) ?_
    have := h x (by simp)
    exact Nat.pow_lt_pow_right (by omega) (by omega)
end Go.Proofs.Yteeolclnoblkcaa
