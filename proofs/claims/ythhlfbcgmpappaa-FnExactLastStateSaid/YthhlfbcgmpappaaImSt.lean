/-
  What is proved: the contract of the program's own IsState. Conditions: the party's times and the state's places are read as they lie.
-/
import Derived.Test.YthhlfbcgmpappaaIsSt
namespace Go.Proofs.Ythhlfbcgmpappaa
open Go.RowKit

theorem isParty_le {xs : List Int} {s : Int} (h : isParty xs s = true) : xs.length ≤ 8 := by
  simp only [isParty, Bool.and_eq_true] at h
  have := (within_iff.1 h.1).2
  omega

set_option maxHeartbeats 800000 in
theorem implIsState_any (A B : Option Addr) (n c m d : Nat) (xs : List Int) (bs : List Bool) (s : Int) (t : Bool) (w : World) (hA : Holds w A (nums xs)) (hB : Holds w B (bits bs)) (hx : xs.length = n) (hy : bs.length = m) (hn : n ≤ 9223372036854775807) (hm : m ≤ 9223372036854775807) :
    Calls Try.prog 31 #[.agg #[.slice A n c, .int .i64 s], .agg #[.slice B m d, .bool t]] w fun e w' => e = .returned (.tuple #[.bool (isParty xs s && isState n bs t), .bool (isParty xs s)]) ∧ Below w.heap.size w w' := by
  have HX := Lib.hid hx
  have HY := Lib.hid hy
  have hA2 := (hA.alloc (.cells #[.slice A n c, .int .i64 s] 26)).alloc (.cells #[.slice B m d, .bool t] 29)
  have hB2 := (hB.alloc (.cells #[.slice A n c, .int .i64 s] 26)).alloc (.cells #[.slice B m d, .bool t] 29)
  cases hp : isParty xs s
  · have HP := Lib.hid hp
    clear hp hx hy
    go_enter Try.func31, Try.ntmps31
    go_wp2_with fail
    refine (isParty_any A n c xs s _ hA2 HX.out hn).mono ?_
    rintro e w1 ⟨rfl, hb1⟩
    rw [HP.out]
    go_wp2
    go_ret2
    exact ⟨rfl, below_then (below2 w _ _) hb1 (by simp; omega)⟩
  · have HP := Lib.hid hp
    have h8 : n ≤ 8 := by have := isParty_le hp; omega
    clear hp hx hy
    have h0 := (Whole.fresh w 26 #[.slice A n c, .int .i64 s]).alloc (.cells #[.slice B m d, .bool t] 29)
    have h1 := Whole.fresh (w.alloc (.cells #[.slice A n c, .int .i64 s] 26)) 29 #[.slice B m d, .bool t]
    rw [World.size_alloc] at h1
    cases hst : isState n bs t
    all_goals
      have HST := Lib.hid hst
      clear hst
      go_enter Try.func31, Try.ntmps31
      go_wp2_with fail
      refine (isParty_any A n c xs s _ hA2 HX.out hn).mono ?_
      rintro e w1 ⟨rfl, hb1⟩
      rw [HP.out]
      obtain ⟨c0, c1, -, -⟩ := (h0.below hb1).two
      obtain ⟨d0, d1, -, -⟩ := (h1.below hb1).two
      have hB3 := hB2.below hb1
      have hb1' := below_then (below2 w _ _) hb1 (by simp; omega)
      clear h0 h1 hb1 hA2 hB2
      go_wp2_with fail
    · refine (placeOf_no B n m d bs t _ hB3 HY.out hm HST.out).mono ?_
      rintro e w2 ⟨rfl, hb2⟩
      unfold placeCells
      go_wp2
      go_ret2
      exact ⟨rfl, (below_then hb1' hb2 hb1'.size).alloc (Nat.le_trans hb1'.size hb2.size) _⟩
    · refine (placeOf_yes B n m d bs t _ hB3 HY.out h8 HST.out).mono ?_
      rintro e w2 ⟨rfl, hb2⟩
      unfold placeCells
      go_wp2
      go_ret2
      exact ⟨rfl, (below_then hb1' hb2 hb1'.size).alloc (Nat.le_trans hb1'.size hb2.size) _⟩
end Go.Proofs.Ythhlfbcgmpappaa
