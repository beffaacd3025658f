/-
  What is proved: the contract of the program's own CanCross. Conditions: the arguments are read as they lie.
-/
import Derived.Test.YthhlfbcgmpappaaCanI
namespace Go.Proofs.Ythhlfbcgmpappaa
open Go.RowKit

set_option maxHeartbeats 1600000 in
theorem implCanCross_any (A B D : Option Addr) (n c m d q z : Nat) (xs : List Int) (bs : List Bool) (l : List Int) (s : Int) (t : Bool) (w : World) (hA : Holds w A (nums xs)) (hB : Holds w B (bits bs)) (hD : Holds w D (nums l)) (hx : xs.length = n) (hy : bs.length = m) (hz : l.length = q) (hn : n ≤ 9223372036854775807) (hm : m ≤ 9223372036854775807) (hq : q ≤ 9223372036854775807) :
    Calls Try.prog 27 #[.agg #[.slice A n c, .int .i64 s], .agg #[.slice B m d, .bool t], .slice D q z] w fun e w' => e = .returned (.tuple #[.bool ((isParty xs s && isState n bs t) && canGo n s bs t l), .bool (isParty xs s && isState n bs t)]) ∧ Below w.heap.size w w' := by
  have HX := Lib.hid hx
  have HY := Lib.hid hy
  have HZ := Lib.hid hz
  have hA2 := (hA.alloc (.cells #[.slice A n c, .int .i64 s] 26)).alloc (.cells #[.slice B m d, .bool t] 29)
  have hB2 := (hB.alloc (.cells #[.slice A n c, .int .i64 s] 26)).alloc (.cells #[.slice B m d, .bool t] 29)
  have hD2 := (hD.alloc (.cells #[.slice A n c, .int .i64 s] 26)).alloc (.cells #[.slice B m d, .bool t] 29)
  have h0 := (Whole.fresh w 26 #[.slice A n c, .int .i64 s]).alloc (.cells #[.slice B m d, .bool t] 29)
  go_enter Try.func27, Try.ntmps27
  go_wp2_with fail
  refine (partyPlace_any A B n c m d xs bs s t _ hA2 hB2 hx hy hn hm).mono ?_
  clear hx hy hz
  rintro e w1 ⟨⟨hp, rfl⟩ | ⟨hp, rfl⟩, hb⟩
  · have HP := Lib.hid hp
    have h8 : n ≤ 8 := by
      simp only [Bool.and_eq_true] at hp
      have := isParty_le hp.1
      have := HX.out
      omega
    have ht := below_then (below2 w _ _) hb (by simp; omega)
    replace ht := ht.alloc ht.size (.cells (placeCells bs t) 92)
    have hl := (h0.below hb).lt
    obtain ⟨c0, c1, -, -⟩ := (h0.below hb).two
    have hD3 := (hD2.below hb).alloc (.cells (placeCells bs t) 92)
    clear hp hb h0 hA2 hB2 hD2
    unfold placeCells
    go_wp2_with fail
    refine (tripOf_any A D n c q z bs l s t _ hD3 HZ.out hq h8).mono ?_
    rintro e w2 ⟨⟨hc, rfl⟩ | ⟨hc, rfl⟩, hb⟩
    all_goals
      have HC := Lib.hid hc
      replace ht := below_then ht hb ht.size
      clear hc hb c0 c1 hl
      unfold crowdCells
      go_wp2
      go_ret2
      exact ⟨by rw [HP.out, HC.out]; rfl, ht.alloc ht.size _⟩
  · have HP := Lib.hid hp
    have ht := below_then (below2 w _ _) hb (by simp; omega)
    replace ht := ht.alloc ht.size (.cells (placeCells [] false) 92)
    clear hp hb h0 hA2 hB2 hD2
    unfold placeCells
    go_wp2
    go_ret2
    exact ⟨by rw [HP.out]; rfl, ht⟩
end Go.Proofs.Ythhlfbcgmpappaa
