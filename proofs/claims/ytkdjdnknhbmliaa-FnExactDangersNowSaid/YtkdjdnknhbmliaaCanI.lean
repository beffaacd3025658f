/-
  What is proved: contracts of the program's own place of a state, of a trip in it, and of its CanCross. Conditions: the arguments are read as they lie; at most eight people.
-/
import Derived.Test.YtkdjdnknhbmliaaCan
import Derived.Test.YtkdjdnknhbmliaaRow
namespace Go.Proofs.Ytkdjdnknhbmliaa
open Go.RowKit

theorem and_of {a b x y : Bool} (h : a = x) (k : b = y) : (a && b) = (x && y) := by rw [h, k]

/-- What partyPlace hands back. -/
def PlacePost (n : Nat) (xs : List Int) (s : Int) (bs : List Bool) (t : Bool) (w : World) (e : Ending) (w' : World) : Prop :=
  (((isParty xs s && isState n bs t) = true ∧ e = .returned (.tuple #[.agg (placeCells bs t), .bool true])) ∨ ((isParty xs s && isState n bs t) = false ∧ e = .returned (.tuple #[.agg (placeCells [] false), .bool false]))) ∧ Below w.heap.size w w'

/-- The first k people: who is on the list stands where t is. -/
def HoldTo (bs : List Bool) (t : Bool) (l : List Int) (k : Nat) : Prop := ∀ i, i < k → has l i = true → bs.getD i false = t
theorem HoldTo.next {bs : List Bool} {t : Bool} {l : List Int} {k : Nat} (h : HoldTo bs t l k) (hk : has l k = true → bs.getD k false = t) : HoldTo bs t l (k + 1) := fun i hi =>
  (Nat.lt_succ_iff_lt_or_eq.1 hi).elim (h i) (fun e => e ▸ hk)
theorem place_at (bs : List Bool) (t : Bool) {i : Nat} (h : i < 8) : (placeCells bs t)[i]? = some (.bool (bs.getD i false)) := by
  match i, h with
  | 0, _ => rfl
  | 1, _ => rfl
  | 2, _ => rfl
  | 3, _ => rfl
  | 4, _ => rfl
  | 5, _ => rfl
  | 6, _ => rfl
  | 7, _ => rfl
theorem at_of_hold {bs : List Bool} {t : Bool} {l : List Int} {n : Nat} (hs : StepsTo l (n - 1) l.length) (hn : n ≤ 8) (h : HoldTo bs t l 8) : allAt bs t l = true :=
  allAt_yes fun j hj => by
    have hm := mem_steps hs (List.getElem_mem hj)
    exact h (l[j]).toNat (by omega) (has_iff.2 (by rw [Int.toNat_of_nonneg hm.1]; exact List.getElem_mem hj))
theorem at_not {bs : List Bool} {t : Bool} {l : List Int} {i : Nat} (h : has l i = true) (hne : bs.getD i false ≠ t) : allAt bs t l = false := by
  rw [allAt, List.all_eq_false]
  exact ⟨(i : Int), has_iff.1 h, by simpa using hne⟩

theorem index_crowd (l : List Int) {k : Nat} (h : k < 8) (w : World) : (Instr.index 86 (.agg #[.bool (has l 0), .bool (has l 1), .bool (has l 2), .bool (has l 3), .bool (has l 4), .bool (has l 5), .bool (has l 6), .bool (has l 7)]) (.int .i64 k)).run Try.prog w = .ok (.bool (has l k)) w :=
  match k, h with
  | 0, _ => by kernel_rfl
  | 1, _ => by kernel_rfl
  | 2, _ => by kernel_rfl
  | 3, _ => by kernel_rfl
  | 4, _ => by kernel_rfl
  | 5, _ => by kernel_rfl
  | 6, _ => by kernel_rfl
  | 7, _ => by kernel_rfl

set_option maxHeartbeats 1600000 in
theorem holds_any (n : Nat) (bs : List Bool) (l : List Int) (t : Bool) (w : World) (hs : StepsTo l (n - 1) l.length) (hn : n ≤ 8) :
    Calls Try.prog 119 #[.agg (placeCells bs t), .agg (crowdCells l)] w fun e w' => e = .returned (.bool (allAt bs t l)) ∧ Below w.heap.size w w' := by
  unfold crowdCells
  have h0 := (Whole.fresh w 90 (placeCells bs t)).alloc (.cells #[.bool (has l 0), .bool (has l 1), .bool (has l 2), .bool (has l 3), .bool (has l 4), .bool (has l 5), .bool (has l 6), .bool (has l 7)] 88)
  have hb := below2 w (.cells (placeCells bs t) 90) (.cells #[.bool (has l 0), .bool (has l 1), .bool (has l 2), .bool (has l 3), .bool (has l 4), .bool (has l 5), .bool (has l 6), .bool (has l 7)] 88)
  have ht8 := (h0.cell 8).trans (show (placeCells bs t)[8]? = some (.bool t) from rfl)
  go_enter Try.func119, Try.ntmps119
  go_wp2
  go_loopw [9] (fun i wr => ∃ k x : Nat, k ≤ 8 ∧ i = .int .i64 k ∧ wr = World.drewN ((w.alloc (.cells (placeCells bs t) 90)).alloc (.cells #[.bool (has l 0), .bool (has l 1), .bool (has l 2), .bool (has l 3), .bool (has l 4), .bool (has l 5), .bool (has l 6), .bool (has l 7)] 88)) x ∧ HoldTo bs t l k) (fun i _ => 8 - (intOf i).toNat)
  case atStart => exact ⟨0, 0, Nat.zero_le _, rfl, rfl, fun _ h => absurd h (by omega)⟩
  case round =>
    obtain ⟨k, x, hk, rfl, rfl, hat⟩ := hrel
    by_cases hlt : k < 8
    · have hix := index_crowd l hlt
      have hkc := (h0.cell k).trans (place_at bs t hlt)
      cases hp : has l k
      · rw [hp] at hix
        have HN := Lib.hid (hat.next (fun h => by rw [hp] at h; cases h))
        clear hp
        go_wp2
        go_quiet (fail)
        go_wp2
        go_roundw
        case rel => exact ⟨k + 1, x + _, by omega, by go_num, by first | rfl | exact World.drewN_drewN _ _ _, HN.out⟩
        case measure => simp [intOf]; omega
      · rw [hp] at hix
        by_cases he : bs.getD k false = t
        · have HN := Lib.hid (hat.next (fun _ => he))
          have hkk : (k : Int) < 8 := by omega
          rw [he] at hkc
          have hne2 : (!(t == t)) = false := by simp
          clear hp he
          go_wp2
          go_quiet (fail)
          go_wp2
          go_roundw
          case rel => exact ⟨k + 1, x + _, by omega, by go_num, by first | rfl | exact World.drewN_drewN _ _ _, HN.out⟩
          case measure => simp [intOf]; omega
        · have HN := Lib.hid (at_not hp he)
          have hbv : bs.getD k false = !t := by cases hh : bs.getD k false <;> cases t <;> simp_all
          rw [hbv] at hkc
          have hkk : (k : Int) < 8 := by omega
          have hne : (!((!t) == t)) = true := by cases t <;> rfl
          clear hp he hbv
          go_wp2
          go_quiet (fail)
          go_wp2
          go_ret
          exact ⟨ret_of (by rw [HN.out]; rfl), by first | exact below_draws (below_draws hb _) _ | exact below_draws hb _⟩
    · have hk8 : k = 8 := by omega
      subst hk8
      have HN := Lib.hid (at_of_hold hs hn hat)
      go_wp2
      go_ret
      exact ⟨ret_of (by rw [HN.out]; rfl), below_draws hb _⟩

theorem can_of {n : Nat} {s : Int} {bs : List Bool} {t : Bool} {l : List Int} {x y : Bool} (h : isTrip n s l = x) (k : allAt bs t l = y) : canGo n s bs t l = (x && y) := and_of h k
theorem size_crowd : (Try.prog.info? 88).map (·.size) = some 8 := by kernel_rfl

theorem crowd_one (l : List Int) : (crowdCells l).all (·.oneCell') = true := by simp [crowdCells, Value.oneCell']

/-- What tripOf hands back. -/
def TripPost (n : Nat) (s : Int) (bs : List Bool) (t : Bool) (l : List Int) (w : World) (e : Ending) (w' : World) : Prop :=
  ((canGo n s bs t l = true ∧ e = .returned (.tuple #[.agg (crowdCells l), .bool true])) ∨ (canGo n s bs t l = false ∧ e = .returned (.tuple #[.agg (crowdCells []), .bool false]))) ∧ Below w.heap.size w w'

end Go.Proofs.Ytkdjdnknhbmliaa
