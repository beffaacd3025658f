/-
  What is proved: how many guards and captives may be over, by the program. Conditions: none.
-/
import Derived.Test.YteeolclnoblkcaaGuardN
namespace Go.Proofs.Yteeolclnoblkcaa
open Go.RowKit

set_option maxHeartbeats 3200000 in
theorem implCountGuarded_any (G K : Int) (w : World) :
    Calls Try.prog 52 #[.int .i64 G, .int .i64 K] w fun e w' => e = .returned (.tuple #[.int .i64 (guardedN G K), .bool (sides G K)]) ∧ Below w.heap.size w w' := by
  cases hs : sides G K
  · have HN := Lib.hid (guardedN_no hs)
    have HS := Lib.hid hs
    clear hs
    go_enter Try.func52, Try.ntmps52
    go_wp2_with fail
    refine (areGuards_any _ _ _).mono ?_
    rintro e w' ⟨rfl, rfl⟩
    rw [HS.out]
    go_wp2
    go_ret2
    exact ⟨by rw [HN.out]; rfl, Below.refl _ _⟩
  · have hb := sides_iff.1 hs
    obtain ⟨⟨b1, b2⟩, ⟨b3, b4⟩, -⟩ := hb
    have HSS := Lib.hid hs
    clear hs
    have h0 := Whole.fresh w 106 #[.int .i64 G, .int .i64 K, .int .i64 1]
    have ht0 := below1 w (.cells #[.int .i64 G, .int .i64 K, .int .i64 1] 106)
    go_enter Try.func52, Try.ntmps52
    go_wp2_with fail
    refine (areGuards_any _ _ _).mono ?_
    rintro e w' ⟨rfl, rfl⟩
    rw [HSS.out]
    go_wp2
    go_loopw [7, 19] (fun n g wr => ∃ i : Nat, (i : Int) ≤ G + 1 ∧ g = .int .i64 i ∧ n = .int .i64 (allN G K i) ∧ Whole wr w.heap.size 106 #[.int .i64 G, .int .i64 K, .int .i64 1] ∧ Below w.heap.size w wr) (fun _ g _ => (G + 1 - intOf g).toNat)
    case atStart => exact ⟨0, by omega, rfl, rfl, h0, ht0⟩
    case round =>
      obtain ⟨i, hi, rfl, rfl, hw, hb⟩ := hrel
      clear h0 ht0
      have hab := allN_bd (G := G) b3 b4 i
      by_cases hlt : (i : Int) ≤ G
      · have hi9 : (i : Int) ≤ 8 := by omega
        have hd : decide ((i : Int) < G + 1) = true := by simp; omega
        obtain ⟨wo, rfl⟩ : ∃ wo : World, wo = wr := ⟨_, rfl⟩
        go_wp2
        go_loopw [7, 24] (fun n k wr => ∃ j : Nat, (j : Int) ≤ K + 1 ∧ k = .int .i64 j ∧ n = .int .i64 (allN G K i + rowN G K i j) ∧ Whole wr w.heap.size 106 #[.int .i64 G, .int .i64 K, .int .i64 1] ∧ Below w.heap.size w wr) (fun _ k _ => (K + 1 - intOf k).toNat)
        case atStart => exact ⟨0, by omega, rfl, by simp [rowN], hw, hb⟩
        case round =>
          obtain ⟨j, hj, rfl, rfl, hw, hb⟩ := hrel
          have hrb := rowN_bd G K i j
          have c0 : wr.cell? ⟨w.heap.size, 0, none⟩ = some (.int .i64 G) := hw.cell 0
          have c1 : wr.cell? ⟨w.heap.size, 1, none⟩ = some (.int .i64 K) := hw.cell 1
          have c2 : wr.cell? ⟨w.heap.size, 2, none⟩ = some (.int .i64 1) := hw.cell 2
          by_cases hlt2 : (j : Int) ≤ K
          · cases hok : okBoth G K i j
            · have HR := Lib.hid (rowN_no hok)
              have HO := Lib.hid hok
              clear hok
              go_wp2_with (go_at_call 93; refine (isGuarded_any _ _ _ _ _ _ _ (by omega) (by omega) (by omega) (by omega) (by omega) (by omega) (by omega) (by omega) (by omega) (by omega)).mono ?_; rintro e w' ⟨rfl, hb2⟩; rw [HO.out])
              go_roundw
              case rel => exact ⟨j + 1, by omega, by go_num, by rw [HR.out], hw.below hb2, below_then hb hb2 hb.size⟩
              case measure => simp [intOf]; omega
            · have HR := Lib.hid (rowN_yes hok)
              have HO := Lib.hid hok
              clear hok
              go_wp2_with (go_at_call 93; refine (isGuarded_any _ _ _ _ _ _ _ (by omega) (by omega) (by omega) (by omega) (by omega) (by omega) (by omega) (by omega) (by omega) (by omega)).mono ?_; rintro e w' ⟨rfl, hb2⟩; rw [HO.out])
              go_roundw
              case rel => exact ⟨j + 1, by omega, by go_num, by rw [HR.out, Int.add_assoc], hw.below hb2, below_then hb hb2 hb.size⟩
              case measure => simp [intOf]; omega
          · have HX := Lib.hid (allN_next (G := G) (i := i) (show (j : Int) = K + 1 by omega))
            go_wp2
            go_roundw
            case rel => exact ⟨i + 1, by omega, by go_num, by rw [HX.out], hw, hb⟩
            case measure => simp [intOf]; omega
      · have HN := Lib.hid (guardedN_yes HSS.out (show (i : Int) = G + 1 by omega))
        go_wp2
        go_ret2
        exact ⟨by rw [HN.out]; rfl, hb⟩
end Go.Proofs.Yteeolclnoblkcaa
