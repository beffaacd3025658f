/-
  What is proved: how many guards and captives may be over, by the model and by the program, and the law on it. Conditions: none.
-/
import Derived.Test.YteeolclnoblkcaaGuard
namespace Go.Proofs.Yteeolclnoblkcaa
open Go.RowKit

/-- How many numbers of captives below k may be over beside g guards. -/
def rowN (G K g : Int) : Nat → Int
  | 0 => 0
  | k + 1 => rowN G K g k + (if okBoth G K g k then 1 else 0)
/-- .. beside fewer than i guards. -/
def allN (G K : Int) : Nat → Int
  | 0 => 0
  | i + 1 => allN G K i + rowN G K i (K + 1).toNat
theorem rowN_bd (G K g : Int) : ∀ k : Nat, 0 ≤ rowN G K g k ∧ rowN G K g k ≤ k
  | 0 => by simp [rowN]
  | k + 1 => by
    have := rowN_bd G K g k
    rw [rowN]
    split <;> omega
theorem allN_bd {G K : Int} (h0 : 0 ≤ K) (h : K ≤ 8) : ∀ i : Nat, 0 ≤ allN G K i ∧ allN G K i ≤ 9 * i
  | 0 => by simp [allN]
  | i + 1 => by
    have h1 := allN_bd (G := G) h0 h i
    have h2 := rowN_bd G K i (K + 1).toNat
    rw [allN]
    omega
theorem rowN_yes {G K g : Int} {k : Nat} (h : okBoth G K g k = true) : rowN G K g (k + 1) = rowN G K g k + 1 := by rw [rowN, if_pos h]
theorem rowN_no {G K g : Int} {k : Nat} (h : okBoth G K g k = false) : rowN G K g (k + 1) = rowN G K g k := by rw [rowN, if_neg (by simp [h])]; omega
theorem allN_next {G K : Int} {i k : Nat} (h : (k : Int) = K + 1) : allN G K i + rowN G K i k = allN G K (i + 1) := by
  rw [allN, show (K + 1).toNat = k by omega]

/-- What the call comes to. -/
def guardedN (G K : Int) : Int := if sides G K then allN G K (G + 1).toNat else 0
theorem guardedN_no {G K : Int} (h : sides G K = false) : guardedN G K = 0 := by simp [guardedN, h]
theorem guardedN_yes {G K : Int} {i : Nat} (h : sides G K = true) (hi : (i : Int) = G + 1) : guardedN G K = allN G K i := by
  simp [guardedN, h, show (G + 1).toNat = i by omega]

set_option maxHeartbeats 1600000 in
theorem specCountGuarded_any (G K : Int) (w : World) :
    Calls Try.prog 51 #[.int .i64 G, .int .i64 K] w fun e w' => e = .returned (.tuple #[.int .i64 (guardedN G K), .bool (sides G K)]) ∧ w = w' := by
  have h1 : (sides G K && within 1 1 4) = sides G K := by rw [within_yes (by omega) (by omega), Bool.and_true]
  cases hs : sides G K
  · have HN := Lib.hid (guardedN_no hs)
    have HS := Lib.hid (h1.trans hs)
    clear h1 hs
    go_enter Try.func51, Try.ntmps51
    go_wp2_with fail
    refine (cuSides_any _ _ _ _).mono ?_
    rintro e w' ⟨rfl, rfl⟩
    rw [HS.out]
    go_wp2
    go_ret2
    exact ⟨by rw [HN.out]; rfl, rfl⟩
  · have hb := sides_iff.1 hs
    obtain ⟨⟨b1, b2⟩, ⟨b3, b4⟩, -⟩ := hb
    have HSS := Lib.hid hs
    have HS := Lib.hid (h1.trans hs)
    clear h1 hs
    go_enter Try.func51, Try.ntmps51
    go_wp2_with fail
    refine (cuSides_any _ _ _ _).mono ?_
    rintro e w' ⟨rfl, rfl⟩
    rw [HS.out]
    go_wp2
    go_loop [6, 7] (fun n g => ∃ i : Nat, (i : Int) ≤ G + 1 ∧ g = .int .i64 i ∧ n = .int .i64 (allN G K i)) (fun _ g => (G + 1 - intOf g).toNat)
    case atStart => exact ⟨0, by omega, rfl, rfl⟩
    case round =>
      obtain ⟨i, hi, rfl, rfl⟩ := hrel
      have hab := allN_bd (G := G) b3 b4 i
      by_cases hlt : (i : Int) ≤ G
      · have hi9 : (i : Int) ≤ 8 := by omega
        go_wp2
        go_loop [6, 8] (fun n k => ∃ j : Nat, (j : Int) ≤ K + 1 ∧ k = .int .i64 j ∧ n = .int .i64 (allN G K i + rowN G K i j)) (fun _ k => (K + 1 - intOf k).toNat)
        case atStart => exact ⟨0, by omega, rfl, by simp [rowN]⟩
        case round =>
          obtain ⟨j, hj, rfl, rfl⟩ := hrel
          have hrb := rowN_bd G K i j
          by_cases hlt2 : (j : Int) ≤ K
          · cases hok : okBoth G K i j
            · have HR := Lib.hid (rowN_no hok)
              have HO := Lib.hid hok
              clear hok
              go_wp2_with (go_at_call 91; refine (cuGuarded_any _ _ _ _ _ (by omega) (by omega) (by omega) (by omega) (by omega) (by omega)).mono ?_; rintro e w' ⟨rfl, rfl⟩; rw [HO.out])
              go_round
              case rel => exact ⟨j + 1, by omega, by go_num, by rw [HR.out]⟩
              case measure => simp [intOf]; omega
            · have HR := Lib.hid (rowN_yes hok)
              have HO := Lib.hid hok
              clear hok
              go_wp2_with (go_at_call 91; refine (cuGuarded_any _ _ _ _ _ (by omega) (by omega) (by omega) (by omega) (by omega) (by omega)).mono ?_; rintro e w' ⟨rfl, rfl⟩; rw [HO.out])
              go_round
              case rel => exact ⟨j + 1, by omega, by go_num, by rw [HR.out, Int.add_assoc]⟩
              case measure => simp [intOf]; omega
          · have HX := Lib.hid (allN_next (G := G) (i := i) (show (j : Int) = K + 1 by omega))
            go_wp2
            go_round
            case rel => exact ⟨i + 1, by omega, by go_num, by rw [HX.out]⟩
            case measure => simp [intOf]; omega
      · have HN := Lib.hid (guardedN_yes HSS.out (show (i : Int) = G + 1 by omega))
        go_wp2
        go_ret2
        exact ⟨by rw [HN.out]; rfl, rfl⟩

set_option maxHeartbeats 800000 in
theorem isGuarded_any (G K g k x y : Int) (w : World) (h1 : 0 ≤ g) (h2 : g ≤ 8) (h3 : 0 ≤ k) (h4 : k ≤ 8) (h5 : 0 ≤ G) (h6 : G ≤ 8) (h7 : 0 ≤ K) (h8 : K ≤ 8) (h9 : g ≤ G) (h10 : k ≤ K) :
    Calls Try.prog 93 #[.agg #[.int .i64 g, .int .i64 k, .int .i64 x], .agg #[.int .i64 G, .int .i64 K, .int .i64 y]] w fun e w' => e = .returned (.bool (okBoth G K g k)) ∧ Below w.heap.size w w' := by
  have hg0 := (Whole.fresh w 106 #[.int .i64 g, .int .i64 k, .int .i64 x]).alloc (.cells #[.int .i64 G, .int .i64 K, .int .i64 y] 106)
  have hg1 := Whole.fresh (w.alloc (.cells #[.int .i64 g, .int .i64 k, .int .i64 x] 106)) 106 #[.int .i64 G, .int .i64 K, .int .i64 y]
  simp only [World.size_alloc] at hg1
  have c0 := (hg0.cell 0).trans rfl
  have c1 := (hg0.cell 1).trans rfl
  have d0 := (hg1.cell 0).trans rfl
  have d1 := (hg1.cell 1).trans rfl
  cases h : held g k
  · have HP : Hid (okBoth G K g k = false) := by show _ = _; simp [okBoth, h]
    have H := Lib.hid ((canG_held h1 h3).trans h)
    clear h
    go_enter Try.func93, Try.ntmps93
    go_wp2_with fail
    refine (canGuard_any _ _ _).mono ?_
    rintro e w' ⟨rfl, rfl⟩
    rw [H.out]
    go_wp2
    go_ret
    exact ⟨ret_of (by rw [HP.out]; rfl), below2 w _ _⟩
  · have HP : Hid (okBoth G K g k = held (G - g) (K - k)) := by show _ = _; simp [okBoth, h]
    have H := Lib.hid ((canG_held h1 h3).trans h)
    have H2 := Lib.hid (canG_held (show 0 ≤ G - g by omega) (show 0 ≤ K - k by omega))
    clear h
    go_enter Try.func93, Try.ntmps93
    go_wp2_with fail
    refine (canGuard_any _ _ _).mono ?_
    rintro e w' ⟨rfl, rfl⟩
    rw [H.out]
    go_wp2_with fail
    refine (canGuard_any _ _ _).mono ?_
    rintro e w' ⟨rfl, rfl⟩
    go_wp2
    go_ret
    exact ⟨ret_of (by rw [HP.out, ← H2.out]; rfl), below2 w _ _⟩
end Go.Proofs.Yteeolclnoblkcaa
