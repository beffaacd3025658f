/-
  What is proved: a contract of the program's place of a calm state. Conditions: the arguments are read as they lie.
  What is proved: two places compared by ==. Conditions: none.
  What is proved: a contract of the program's RowsOf. Conditions: the arguments are read as they lie.
-/
import Derived.Deep.DeepCutAuto
import Derived.Test.YthldpihiphjjpaaJ7FewestRows
set_option linter.unusedSimpArgs false
set_option linter.unusedVariables false
namespace Go.Proofs.Ythldpihiphjjpaa
open Go.RowKit

/-- What calmPlaceOf hands back. -/
def CalmPlacePost (a b : Int) (bs : List Bool) (t : Bool) (w : World) (e : Ending) (w' : World) : Prop :=
  ((isPlace a b bs t = true ∧ e = .returned (.tuple #[.agg (placeCells bs t), .bool (calmIn a b bs t)])) ∨ (isPlace a b bs t = false ∧ e = .returned (.tuple #[.agg (placeCells [] false), .bool false]))) ∧ Below w.heap.size w w'

end Go.Proofs.Ythldpihiphjjpaa

namespace Go.Proofs.Ythldpihiphjjpaa
open Go.RowKit

/-- Two places compared. -/
def sameEight (v0 v1 v2 v3 v4 v5 v6 v7 u0 u1 u2 u3 u4 u5 u6 u7 : Bool) : Bool := v0 == u0 && v1 == u1 && v2 == u2 && v3 == u3 && v4 == u4 && v5 == u5 && v6 == u6 && v7 == u7
def samePlace (v0 v1 v2 v3 v4 v5 v6 v7 v8 u0 u1 u2 u3 u4 u5 u6 u7 u8 : Bool) : Bool := sameEight v0 v1 v2 v3 v4 v5 v6 v7 u0 u1 u2 u3 u4 u5 u6 u7 && v8 == u8
set_option maxHeartbeats 1600000 in
theorem eight_eq (v0 v1 v2 v3 v4 v5 v6 v7 u0 u1 u2 u3 u4 u5 u6 u7 : Bool) (w : World) : (Op.equalIn 9998 65 (.agg #[.bool v0, .bool v1, .bool v2, .bool v3, .bool v4, .bool v5, .bool v6, .bool v7]) (.agg #[.bool u0, .bool u1, .bool u2, .bool u3, .bool u4, .bool u5, .bool u6, .bool u7])).run Try.prog w = .ok (sameEight v0 v1 v2 v3 v4 v5 v6 v7 u0 u1 u2 u3 u4 u5 u6 u7) w := by
  unfold sameEight
  have uB := Try.underlying4
  have aB := Try.isAgg4
  have zB := Try.sizeOf4
  rw [show (9998 : Nat) = 9997 + 1 from rfl, Op.equalIn]
  simp only [Sem.run_bind, run_underlying Try.underlying65, Result.andThen_ok]
  simp only [Std.Legacy.Range.forIn_eq_forIn_range', Std.Legacy.Range.size, Nat.sub_zero, Nat.add_sub_cancel, Nat.div_one, List.range'_succ, List.range'_zero, List.forIn_cons, List.forIn_nil]
  go_simp
  by_cases h0 : v0 = u0
  case neg => simp [h0]
  case pos =>
    subst h0
    by_cases h1 : v1 = u1
    case neg => simp [h1]
    case pos =>
      subst h1
      by_cases h2 : v2 = u2
      case neg => simp [h2]
      case pos =>
        subst h2
        by_cases h3 : v3 = u3
        case neg => simp [h3]
        case pos =>
          subst h3
          by_cases h4 : v4 = u4
          case neg => simp [h4]
          case pos =>
            subst h4
            by_cases h5 : v5 = u5
            case neg => simp [h5]
            case pos =>
              subst h5
              by_cases h6 : v6 = u6
              case neg => simp [h6]
              case pos =>
                subst h6
                by_cases h7 : v7 = u7
                case neg => simp [h7]
                case pos =>
                  subst h7
                  simp
set_option maxHeartbeats 1600000 in
@[go_sem high] theorem place_eq (v0 v1 v2 v3 v4 v5 v6 v7 v8 u0 u1 u2 u3 u4 u5 u6 u7 u8 : Bool) (w : World) : (Op.equalIn 10000 69 (.agg #[.bool v0, .bool v1, .bool v2, .bool v3, .bool v4, .bool v5, .bool v6, .bool v7, .bool v8]) (.agg #[.bool u0, .bool u1, .bool u2, .bool u3, .bool u4, .bool u5, .bool u6, .bool u7, .bool u8])).run Try.prog w = .ok (samePlace v0 v1 v2 v3 v4 v5 v6 v7 v8 u0 u1 u2 u3 u4 u5 u6 u7 u8) w := by
  have h := eight_eq v0 v1 v2 v3 v4 v5 v6 v7 u0 u1 u2 u3 u4 u5 u6 u7
  unfold samePlace
  generalize sameEight v0 v1 v2 v3 v4 v5 v6 v7 u0 u1 u2 u3 u4 u5 u6 u7 = b at h ⊢
  go_simp
  by_cases h8 : v8 = u8 <;> cases b <;> simp [h8]

theorem sameBits_ext {bs cs : List Bool} (hl : bs.length = cs.length) (h8 : bs.length ≤ 8) : sameEight (bs.getD 0 false) (bs.getD 1 false) (bs.getD 2 false) (bs.getD 3 false) (bs.getD 4 false) (bs.getD 5 false) (bs.getD 6 false) (bs.getD 7 false) (cs.getD 0 false) (cs.getD 1 false) (cs.getD 2 false) (cs.getD 3 false) (cs.getD 4 false) (cs.getD 5 false) (cs.getD 6 false) (cs.getD 7 false) = sameBits bs cs := by
  by_cases h : bs = cs
  · subst h
    rw [sameBits_yes rfl]
    simp [sameEight]
  · rw [sameBits_no h]
    cases hs : sameEight (bs.getD 0 false) (bs.getD 1 false) (bs.getD 2 false) (bs.getD 3 false) (bs.getD 4 false) (bs.getD 5 false) (bs.getD 6 false) (bs.getD 7 false) (cs.getD 0 false) (cs.getD 1 false) (cs.getD 2 false) (cs.getD 3 false) (cs.getD 4 false) (cs.getD 5 false) (cs.getD 6 false) (cs.getD 7 false)
    · rfl
    · exfalso
      apply h
      simp only [sameEight, Bool.and_eq_true, beq_iff_eq] at hs
      obtain ⟨⟨⟨⟨⟨⟨⟨e0, e1⟩, e2⟩, e3⟩, e4⟩, e5⟩, e6⟩, e7⟩ := hs
      apply List.ext_getElem hl
      intro i h1 h2
      have g : ∀ (l : List Bool) (h : i < l.length), l[i] = l.getD i false := fun l h => by simp [h]
      rw [g bs h1, g cs h2]
      match i, h1 with
      | 0, _ => exact e0
      | 1, _ => exact e1
      | 2, _ => exact e2
      | 3, _ => exact e3
      | 4, _ => exact e4
      | 5, _ => exact e5
      | 6, _ => exact e6
      | 7, _ => exact e7
      | k + 8, h => omega
end Go.Proofs.Ythldpihiphjjpaa

namespace Go.Proofs.Ythldpihiphjjpaa
open Go.RowKit

/-- Heads of the call's own over rows that lie spread below them. -/
theorem heads_of_spread {w4 wr : World} {lo c : Nat} {A D : Option Addr} {rs : List RowV} (hs : Spread w4 lo A rs) (hb : Below w4.heap.size w4 wr) (ho : wr.ownsRow w4.heap.size 22 1 (.slice D rs.length c) rs.length (rowVals rs)) (hl : lo ≤ w4.heap.size) : Heads wr lo D c rs := by
  obtain ⟨ps, h2, h3, -⟩ := hs
  refine ⟨own_lower ho hl, ps, h2.below hb, fun p hp => ⟨(h3 p hp).1, Nat.le_trans (h3 p hp).2 hb.size⟩, fun a ha p hp => .inr ?_⟩
  subst ha
  exact Nat.le_trans (h3 p hp).2 (ho.lt a.block rfl).1

end Go.Proofs.Ythldpihiphjjpaa
