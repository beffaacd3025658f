/-
  What is proved: contracts of IsPlan, of the model and of the program. Conditions: the arguments are read as they lie.
-/
import Derived.Test.YtionmcgaicijkaaPlanI
namespace Go.Proofs.Ytionmcgaicijkaa
open Go.RowKit

/-- What IsPlan hands back. -/
def TwoBools (a b : Bool) (w : World) (e : Ending) (w' : World) : Prop := e = .returned (.tuple #[.bool a, .bool b]) ∧ Below w.heap.size w w'

set_option maxHeartbeats 800000 in
set_option maxRecDepth 100000 in
theorem specIsPlan_any (A D : Option Addr) (n c q z : Nat) (xs : List Int) (rs : List RowV) (s : Int) (w : World) (hA : Holds w A (nums xs)) (hD : Grid w D rs) (hx : xs.length = n) (hz : rs.length = q) (hn : n ≤ 9223372036854775807) (hq : q ≤ 9223372036854775807) :
    Calls Try.prog 39 #[.agg #[.slice A n c, .int .i64 s], .slice D q z] w (TwoBools (isParty xs s && isPlan n s (rowNums rs)) (isParty xs s) w) := by
  have HX := Lib.hid hx
  have HZ := Lib.hid hz
  have hA2 := hA.alloc (.cells #[.slice A n c, .int .i64 s] 33)
  have hD2 := hD.alloc (.cells #[.slice A n c, .int .i64 s] 33)
  have h0 := Whole.fresh w 33 #[.slice A n c, .int .i64 s]
  have hbw := below1 w (.cells #[.slice A n c, .int .i64 s] 33)
  cases hp : isParty xs s
  · have HP := Lib.hid hp
    clear hp hx hz
    go_enter Try.func39, Try.ntmps39
    go_wp2_with fail
    refine (paGood_any A n c xs s _ hA2 HX.out hn).mono ?_
    rintro e w1 ⟨rfl, hb⟩
    rw [HP.out]
    have ht := below_then hbw hb (by simp)
    clear hb
    go_wp2
    go_ret2
    exact ⟨rfl, ht⟩
  · have HP := Lib.hid hp
    have h8 := isParty_le hp
    have hpos := isParty_pos hp
    rw [hx] at h8 hpos
    clear hp hx hz
    go_enter Try.func39, Try.ntmps39
    go_wp2_with fail
    refine (paGood_any A n c xs s _ hA2 HX.out hn).mono ?_
    rintro e w1 ⟨rfl, hb⟩
    rw [HP.out]
    have ht := below_then hbw hb (by simp)
    have hD3 := hD2.below hb
    obtain ⟨c0, c1, -, -⟩ := (h0.below hb).two
    clear hb
    go_wp2_with fail
    refine (paPlan_any A D n c q z rs s _ hD3 HZ.out hpos h8 hq).mono ?_
    rintro e w2 ⟨rfl, hb⟩
    replace ht := below_then ht hb ht.size
    clear hb c0 c1
    go_wp2
    go_ret2
    exact ⟨rfl, ht⟩

set_option maxHeartbeats 800000 in
set_option maxRecDepth 100000 in
theorem implIsPlan_any (A D : Option Addr) (n c q z : Nat) (xs : List Int) (rs : List RowV) (s : Int) (w : World) (hA : Holds w A (nums xs)) (hD : Grid w D rs) (hx : xs.length = n) (hz : rs.length = q) (hn : n ≤ 9223372036854775807) (hq : q ≤ 9223372036854775807) :
    Calls Try.prog 40 #[.agg #[.slice A n c, .int .i64 s], .slice D q z] w (TwoBools (isParty xs s && isPlan n s (rowNums rs)) (isParty xs s) w) := by
  have HX := Lib.hid hx
  have HZ := Lib.hid hz
  have hA2 := hA.alloc (.cells #[.slice A n c, .int .i64 s] 33)
  have hD2 := hD.alloc (.cells #[.slice A n c, .int .i64 s] 33)
  have h0 := Whole.fresh w 33 #[.slice A n c, .int .i64 s]
  have hbw := below1 w (.cells #[.slice A n c, .int .i64 s] 33)
  clear hx hz
  go_enter Try.func40, Try.ntmps40
  go_wp2_with fail
  refine (planOf_any A D n c q z xs rs s _ hA2 hD2 HX.out HZ.out hn hq).mono ?_
  rintro e w1 ⟨⟨hp, T, c2, rfl, -⟩ | ⟨hp, rfl⟩, hb⟩
  all_goals
    have HP := Lib.hid hp
    have ht := below_then hbw hb (by simp)
    have hA3 := hA2.below hb
    obtain ⟨c0, c1, -, -⟩ := (h0.below hb).two
    clear hp hb hD2 h0
    go_wp2_with fail
    refine (isParty_any A n c xs s _ hA3 HX.out hn).mono ?_
    rintro e w2 ⟨rfl, hb⟩
    replace ht := below_then ht hb ht.size
    clear hb c0 c1
    go_wp2
    go_ret2
    exact ⟨by rw [HP.out]; rfl, ht⟩
theorem specIsPlan_on (A D : Option Addr) (n c q z : Nat) (xs : List Int) (rs : List RowV) (ls : List (List Int)) (s : Int) (w : World) (hA : Holds w A (nums xs)) (hD : Grid w D rs) (he : rowNums rs = ls) (hx : xs.length = n) (hz : rs.length = q) (hn : n ≤ 9223372036854775807) (hq : q ≤ 9223372036854775807) :
    Calls Try.prog 39 #[.agg #[.slice A n c, .int .i64 s], .slice D q z] w (TwoBools (isParty xs s && isPlan n s ls) (isParty xs s) w) := by
  subst he
  exact specIsPlan_any A D n c q z xs rs s w hA hD hx hz hn hq
theorem implIsPlan_on (A D : Option Addr) (n c q z : Nat) (xs : List Int) (rs : List RowV) (ls : List (List Int)) (s : Int) (w : World) (hA : Holds w A (nums xs)) (hD : Grid w D rs) (he : rowNums rs = ls) (hx : xs.length = n) (hz : rs.length = q) (hn : n ≤ 9223372036854775807) (hq : q ≤ 9223372036854775807) :
    Calls Try.prog 40 #[.agg #[.slice A n c, .int .i64 s], .slice D q z] w (TwoBools (isParty xs s && isPlan n s ls) (isParty xs s) w) := by
  subst he
  exact implIsPlan_any A D n c q z xs rs s w hA hD hx hz hn hq
end Go.Proofs.Ytionmcgaicijkaa
