/-
  What is proved: contracts of the model's bits of a group, of the program's closure that tells calm crowds, and of both IsCalmGroup. Conditions: the lists are read as they lie.
-/
import Derived.Test.YteeolclnoblkcaaCalm
namespace Go.Proofs.Yteeolclnoblkcaa
open Go.RowKit

theorem wrap_pow {x : Nat} (h : x ≤ 7) : wrap64 ((2 : Int) ^ x) = ((2 ^ x : Nat) : Int) := by
  have h1 : 2 ^ x ≤ 2 ^ 7 := Nat.pow_le_pow_right (by omega) h
  rw [show (2 : Int) ^ x = ((2 ^ x : Nat) : Int) by push_cast; rfl]
  generalize 2 ^ x = y at h1 ⊢
  unfold wrap64
  omega
theorem pow_small {x : Nat} (h : x ≤ 7) : 2 ^ x < 9223372036854775808 := Nat.lt_of_le_of_lt (Nat.pow_le_pow_right (by omega) h) (by decide)
theorem mask_take {l : List Int} {hi : Int} (hs : StepsTo l hi l.length) (h7 : hi ≤ 7) (k : Nat) : maskOf (l.take k) < 9223372036854775808 :=
  Nat.lt_of_lt_of_le (mask_lt (n := 8) (by omega) _ (fun x hx => by have := (mem_steps hs (List.mem_of_mem_take hx)).2; omega)) (by decide)
theorem mask_small {l : List Int} {hi : Int} (hs : StepsTo l hi l.length) (h7 : hi ≤ 7) : maskOf l < 256 :=
  mask_lt (n := 8) (by omega) _ (fun x hx => by have := (mem_steps hs hx).2; omega)

set_option maxHeartbeats 800000 in
theorem cuBits_any (A : Option Addr) (n d : Nat) (l : List Int) (hi : Int) (w : World) (hA : Holds w A (nums l)) (hx : l.length = n) (hn : n ≤ 9223372036854775807) (hs : StepsTo l hi l.length) (h7 : hi ≤ 7) :
    Calls Try.prog 57 #[.slice A n d] w fun e w' => e = .returned (.int .i64 (maskOf l)) ∧ w = w' := by
  subst hx
  go_enter Try.func57, Try.ntmps57
  go_wp2
  go_loop [3, 8] (fun v i => ∃ k : Nat, k ≤ l.length ∧ i = .int .i64 k ∧ v = .int .i64 (maskOf (l.take k))) (fun _ i => l.length - (intOf i).toNat)
  case atStart => exact ⟨0, Nat.zero_le _, rfl, rfl⟩
  case round =>
    obtain ⟨k, hk, rfl, rfl⟩ := hrel
    by_cases hlt : k < l.length
    · obtain ⟨b, o, rfl, hb, hc⟩ := hA.look (k := k) (by simpa [nums] using hlt)
      simp only [nums, List.getElem_map] at hc
      have h1 := (hs k hlt).1
      have h2 := (hs k hlt).2.1
      rw [getD_at l hlt] at h1 h2
      have hnx := mask_next hlt
      obtain ⟨x, hx⟩ := Int.eq_ofNat_of_zero_le h1
      rw [hx] at hc hnx
      have hx7 : x ≤ 7 := by omega
      have HN : Hid (Go.bits .or .i64 (maskOf (l.take k)) (wrap64 ((2 : Int) ^ x)) = (maskOf (l.take (k + 1)) : Int)) := by
        show _ = _
        rw [wrap_pow hx7, bits_or_nat _ _ (mask_take hs h7 k) (pow_small hx7), hnx]; rfl
      clear hnx hx h1 h2
      go_wp2
      go_round
      case rel => exact ⟨k + 1, by omega, by go_num, by rw [HN.out]⟩
      case measure => simp [intOf]; omega
    · have hkn : k = l.length := by omega
      subst hkn
      rw [List.take_length]
      go_wp2
      go_ret
      exact ⟨rfl, rfl⟩

/-- Eight truth values as the cells of a crowd. -/
def cells8 (f : Nat → Bool) : Array Value := #[.bool (f 0), .bool (f 1), .bool (f 2), .bool (f 3), .bool (f 4), .bool (f 5), .bool (f 6), .bool (f 7)]
theorem cells8_at (f : Nat → Bool) {i : Nat} (h : i < 8) : (cells8 f)[i]? = some (.bool (f i)) := by
  match i, h with
  | 0, _ => rfl
  | 1, _ => rfl
  | 2, _ => rfl
  | 3, _ => rfl
  | 4, _ => rfl
  | 5, _ => rfl
  | 6, _ => rfl
  | 7, _ => rfl
theorem crowd8 (l : List Int) : crowdCells l = cells8 (has l) := rfl

set_option maxHeartbeats 1600000 in
theorem calmClosure_any (c g : Nat) (f : Nat → Bool) (w : World) (hc : c ≤ 4) (hg : w.cell? ⟨g, 0, none⟩ = some (.int .i64 c)) (hgl : g < w.heap.size) :
    Calls Try.prog 94 #[.agg (cells8 f), .pointer (some ⟨g, 0, none⟩)] w fun e w' => e = .returned (.bool (calm c f)) ∧ Below w.heap.size w w' := by
  have h0 := Whole.fresh w 69 (cells8 f)
  have hg0 : (w.alloc (.cells (cells8 f) 69)).cell? ⟨g, 0, none⟩ = some (.int .i64 c) := (World.cell?_alloc_lt w _ ⟨g, 0, none⟩ hgl).trans hg
  have hb := below1 w (.cells (cells8 f) 69)
  have HH := Lib.hid h0
  have HB := Lib.hid hb
  have HG := Lib.hid hg
  clear h0 hb hg
  unfold cells8 at hg0
  unfold cells8
  go_enter Try.func94, Try.ntmps94
  go_wp2
  go_loopw [4, 5, 10] (fun a b i wr => ∃ k : Nat, k ≤ c ∧ i = .int .i64 k ∧ a = .bool (keepTo f k) ∧ b = .bool (leftTo f k) ∧ Whole wr w.heap.size 69 (cells8 f) ∧ Below w.heap.size w wr) (fun _ _ i _ => c - (intOf i).toNat)
  case atStart => exact ⟨0, Nat.zero_le _, rfl, rfl, rfl, HH.out, HB.out⟩
  case round =>
    obtain ⟨k, hk, rfl, hax, hbx, hw, hb⟩ := hrel
    by_cases hlt : k < c
    · have hd : decide ((k : Int) < c) = true := by simp; omega
      have c0 := (hw.cell (2 * k)).trans (cells8_at f (by omega))
      have c1 := (hw.cell (2 * k + 1)).trans (cells8_at f (by omega))
      have hgr : wr.cell? ⟨g, 0, none⟩ = some (.int .i64 c) := (hb.cell (p := ⟨g, 0, none⟩) hgl).trans HG.out
      have HW := Lib.hid hw
      have HB2 := Lib.hid hb
      clear hw hb
      cases ha : f (2 * k) <;> cases hbb : f (2 * k + 1) <;> cases hx : keepTo f k <;> cases hy : leftTo f k
      all_goals
        rw [ha] at c0
        rw [hbb] at c1
        rw [hx] at hax
        rw [hy] at hbx
        subst hax hbx
        have HA := Lib.hid (show keepTo f (k + 1) = _ by rw [keepTo, hx, ha])
        have HBB := Lib.hid (show leftTo f (k + 1) = _ by rw [leftTo, hy, ha, hbb])
        clear ha hbb hx hy
        go_wp2
        go_quiet (fail)
        go_wp2
        go_roundw
        case rel => exact ⟨k + 1, by omega, by go_num, by rw [HA.out]; rfl, by rw [HBB.out]; rfl, HW.out, below_draws HB2.out _⟩
        case measure => simp [intOf]; omega
    · obtain rfl : k = c := by omega
      have HB2 := Lib.hid hb
      clear hw hb
      cases hx : keepTo f k <;> cases hy : leftTo f k
      all_goals
        rw [hx] at hax
        rw [hy] at hbx
        subst hax hbx
        have HC := Lib.hid (show calm k f = _ by rw [calm, hx, hy])
        clear hx hy
        go_wp2
        go_ret
        exact ⟨ret_of (by rw [HC.out]; rfl), HB2.out⟩
end Go.Proofs.Yteeolclnoblkcaa
