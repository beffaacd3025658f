/-
  What is proved: contracts of the program's own place of a state, of a trip in it, and of its CanCross. Conditions: the arguments are read as they lie; at most eight people.
-/
import Derived.Test.YtifaadjbkbdbnaaCan
import Derived.Test.YtifaadjbkbdbnaaRow
namespace Go.Proofs.Ytifaadjbkbdbnaa
open Go.RowKit

theorem and_of {a b x y : Bool} (h : a = x) (k : b = y) : (a && b) = (x && y) := by rw [h, k]

/-- What partyPlace hands back. -/
def PlacePost (n : Nat) (xs : List Int) (s : Int) (bs : List Bool) (t : Bool) (w : World) (e : Ending) (w' : World) : Prop :=
  (((isParty xs s && isState n bs t) = true ∧ e = .returned (.tuple #[.agg (placeCells bs t), .bool true])) ∨ ((isParty xs s && isState n bs t) = false ∧ e = .returned (.tuple #[.agg (placeCells [] false), .bool false]))) ∧ Below w.heap.size w w'

set_option maxHeartbeats 1600000 in
theorem partyPlace_any (A B : Option Addr) (n c m d : Nat) (xs : List Int) (bs : List Bool) (s : Int) (t : Bool) (w : World) (hA : Holds w A (nums xs)) (hB : Holds w B (bits bs)) (hx : xs.length = n) (hy : bs.length = m) (hn : n ≤ 9223372036854775807) (hm : m ≤ 9223372036854775807) :
    Calls Try.prog 72 #[.agg #[.slice A n c, .int .i64 s], .agg #[.slice B m d, .bool t]] w (PlacePost n xs s bs t w) := by
  have HX := Lib.hid hx
  have HY := Lib.hid hy
  have hA2 := ((hA.alloc (.cells #[.slice A n c, .int .i64 s] 33)).alloc (.cells #[.slice B m d, .bool t] 35)).alloc (.cells (placeCells [] false) 94)
  have hB2 := ((hB.alloc (.cells #[.slice A n c, .int .i64 s] 33)).alloc (.cells #[.slice B m d, .bool t] 35)).alloc (.cells (placeCells [] false) 94)
  have h0 := ((Whole.fresh w 33 #[.slice A n c, .int .i64 s]).alloc (.cells #[.slice B m d, .bool t] 35)).alloc (.cells (placeCells [] false) 94)
  have h1 := (Whole.fresh (w.alloc (.cells #[.slice A n c, .int .i64 s] 33)) 35 #[.slice B m d, .bool t]).alloc (.cells (placeCells [] false) 94)
  have h2 := Whole.fresh ((w.alloc (.cells #[.slice A n c, .int .i64 s] 33)).alloc (.cells #[.slice B m d, .bool t] 35)) 94 (placeCells [] false)
  simp only [World.size_alloc] at h1 h2
  cases hp : isParty xs s
  · have HP : Hid ((isParty xs s && isState n bs t) = false) := by show _ = _; simp [hp]
    have HPP := Lib.hid hp
    clear hp hx hy
    go_enter Try.func72, Try.ntmps72
    go_wp2_with fail
    refine (isParty_any A n c xs s _ hA2 HX.out hn).mono ?_
    rintro e w1 ⟨rfl, hb1⟩
    rw [HPP.out]
    have ht := below_then (below3 w _ _ _) hb1 (by simp; omega)
    have hr := h2.below hb1
    obtain ⟨r0, r1, r2, r3, r4, r5, r6, r7, r8⟩ := place_cells hr
    obtain ⟨f0, f1, f2, f3, f4, f5, f6, f7, f8⟩ := place_open hr
    clear h0 h1 h2 hb1 hA2 hB2
    go_wp2
    refine bodyPost_ret (v := .tuple #[.agg (placeCells [] false), .bool false]) (by simp [results, Try.results72, go_sem, r0, r1, r2, r3, r4, r5, r6, r7, r8, placeCells]) rfl ⟨.inr ⟨HP.out, rfl⟩, ?_⟩
    exact set_place ht (by omega)
  · have HPP := Lib.hid hp
    have h8 : n ≤ 8 := by have := isParty_le hp; omega
    cases hst : isState n bs t
    all_goals
      have HST := Lib.hid hst
      have HP := Lib.hid (and_of hp hst)
      clear hp hx hy hst
      go_enter Try.func72, Try.ntmps72
      go_wp2_with fail
      refine (isParty_any A n c xs s _ hA2 HX.out hn).mono ?_
      rintro e w1 ⟨rfl, hb1⟩
      rw [HPP.out]
      have ht := below_then (below3 w _ _ _) hb1 (by simp; omega)
      have hr := h2.below hb1
      have hB3 := hB2.below hb1
      obtain ⟨c0, c1, -, -⟩ := (h0.below hb1).two
      obtain ⟨d0, d1, -, -⟩ := (h1.below hb1).two
      clear h0 h1 h2 hb1 hA2 hB2
      go_wp2_with fail
    · refine (placeOf_no B n m d bs t _ hB3 HY.out hm HST.out).mono ?_
      rintro e w2 ⟨rfl, hb⟩
      replace ht := below_then ht hb ht.size
      replace hr := hr.below hb
      obtain ⟨r0, r1, r2, r3, r4, r5, r6, r7, r8⟩ := place_cells hr
      obtain ⟨f0, f1, f2, f3, f4, f5, f6, f7, f8⟩ := place_open hr
      clear hb c0 c1 d0 d1
      unfold placeCells
      go_wp2
      refine bodyPost_ret (v := .tuple #[.agg (placeCells [] false), .bool false]) (by simp [results, Try.results72, go_sem, r0, r1, r2, r3, r4, r5, r6, r7, r8, placeCells]) rfl ⟨.inr ⟨HP.out, rfl⟩, ?_⟩
      exact set_place ht (by omega)
    · refine (placeOf_yes B n m d bs t _ hB3 HY.out h8 HST.out).mono ?_
      rintro e w2 ⟨rfl, hb⟩
      replace ht := below_then ht hb ht.size
      replace hr := hr.below hb
      obtain ⟨r0, r1, r2, r3, r4, r5, r6, r7, r8⟩ := place_cells hr
      obtain ⟨f0, f1, f2, f3, f4, f5, f6, f7, f8⟩ := place_open hr
      clear hb c0 c1 d0 d1
      unfold placeCells
      go_wp2
      refine bodyPost_ret (v := .tuple #[.agg (placeCells bs t), .bool true]) (by simp [results, Try.results72, go_sem, r0, r1, r2, r3, r4, r5, r6, r7, r8, placeCells]) rfl ⟨.inl ⟨HP.out, rfl⟩, ?_⟩
      exact set_place ht (by omega)

/-- The first k people: who is on the list stands where t is. -/
def HoldTo (bs : List Bool) (t : Bool) (l : List Int) (k : Nat) : Prop := ∀ i, i < k → has l i = true → bs.getD i false = t
theorem HoldTo.next {bs : List Bool} {t : Bool} {l : List Int} {k : Nat} (h : HoldTo bs t l k) (hk : has l k = true → bs.getD k false = t) : HoldTo bs t l (k + 1) := fun i hi =>
  (Nat.lt_succ_iff_lt_or_eq.1 hi).elim (h i) (fun e => e ▸ hk)
theorem place_at (bs : List Bool) (t : Bool) {i : Nat} (h : i < 8) : (placeCells bs t)[i]? = some (.bool (bs.getD i false)) := by
  match i, h with
  | 0, _ => rfl
  | 1, _ => rfl
  | 2, _ => rfl
  | 3, _ => rfl
  | 4, _ => rfl
  | 5, _ => rfl
  | 6, _ => rfl
  | 7, _ => rfl
theorem at_of_hold {bs : List Bool} {t : Bool} {l : List Int} {n : Nat} (hs : StepsTo l (n - 1) l.length) (hn : n ≤ 8) (h : HoldTo bs t l 8) : allAt bs t l = true :=
  allAt_yes fun j hj => by
    have hm := mem_steps hs (List.getElem_mem hj)
    exact h (l[j]).toNat (by omega) (has_iff.2 (by rw [Int.toNat_of_nonneg hm.1]; exact List.getElem_mem hj))
theorem at_not {bs : List Bool} {t : Bool} {l : List Int} {i : Nat} (h : has l i = true) (hne : bs.getD i false ≠ t) : allAt bs t l = false := by
  rw [allAt, List.all_eq_false]
  exact ⟨(i : Int), has_iff.1 h, by simpa using hne⟩

theorem index_crowd (l : List Int) {k : Nat} (h : k < 8) (w : World) : (Instr.index 90 (.agg #[.bool (has l 0), .bool (has l 1), .bool (has l 2), .bool (has l 3), .bool (has l 4), .bool (has l 5), .bool (has l 6), .bool (has l 7)]) (.int .i64 k)).run Try.prog w = .ok (.bool (has l k)) w :=
  match k, h with
  | 0, _ => by kernel_rfl
  | 1, _ => by kernel_rfl
  | 2, _ => by kernel_rfl
  | 3, _ => by kernel_rfl
  | 4, _ => by kernel_rfl
  | 5, _ => by kernel_rfl
  | 6, _ => by kernel_rfl
  | 7, _ => by kernel_rfl

set_option maxHeartbeats 1600000 in
theorem holds_any (n : Nat) (bs : List Bool) (l : List Int) (t : Bool) (w : World) (hs : StepsTo l (n - 1) l.length) (hn : n ≤ 8) :
    Calls Try.prog 133 #[.agg (placeCells bs t), .agg (crowdCells l)] w fun e w' => e = .returned (.bool (allAt bs t l)) ∧ Below w.heap.size w w' := by
  unfold crowdCells
  have h0 := (Whole.fresh w 94 (placeCells bs t)).alloc (.cells #[.bool (has l 0), .bool (has l 1), .bool (has l 2), .bool (has l 3), .bool (has l 4), .bool (has l 5), .bool (has l 6), .bool (has l 7)] 92)
  have hb := below2 w (.cells (placeCells bs t) 94) (.cells #[.bool (has l 0), .bool (has l 1), .bool (has l 2), .bool (has l 3), .bool (has l 4), .bool (has l 5), .bool (has l 6), .bool (has l 7)] 92)
  have ht8 := (h0.cell 8).trans (show (placeCells bs t)[8]? = some (.bool t) from rfl)
  go_enter Try.func133, Try.ntmps133
  go_wp2
  go_loopw [9] (fun i wr => ∃ k x : Nat, k ≤ 8 ∧ i = .int .i64 k ∧ wr = World.drewN ((w.alloc (.cells (placeCells bs t) 94)).alloc (.cells #[.bool (has l 0), .bool (has l 1), .bool (has l 2), .bool (has l 3), .bool (has l 4), .bool (has l 5), .bool (has l 6), .bool (has l 7)] 92)) x ∧ HoldTo bs t l k) (fun i _ => 8 - (intOf i).toNat)
  case atStart => exact ⟨0, 0, Nat.zero_le _, rfl, rfl, fun _ h => absurd h (by omega)⟩
  case round =>
    obtain ⟨k, x, hk, rfl, rfl, hat⟩ := hrel
    by_cases hlt : k < 8
    · have hix := index_crowd l hlt
      have hkc := (h0.cell k).trans (place_at bs t hlt)
      cases hp : has l k
      · rw [hp] at hix
        have HN := Lib.hid (hat.next (fun h => by rw [hp] at h; cases h))
        clear hp
        go_wp2
        go_quiet (fail)
        go_wp2
        go_roundw
        case rel => exact ⟨k + 1, x + _, by omega, by go_num, by first | rfl | exact World.drewN_drewN _ _ _, HN.out⟩
        case measure => simp [intOf]; omega
      · rw [hp] at hix
        by_cases he : bs.getD k false = t
        · have HN := Lib.hid (hat.next (fun _ => he))
          have hkk : (k : Int) < 8 := by omega
          rw [he] at hkc
          have hne2 : (!(t == t)) = false := by simp
          clear hp he
          go_wp2
          go_quiet (fail)
          go_wp2
          go_roundw
          case rel => exact ⟨k + 1, x + _, by omega, by go_num, by first | rfl | exact World.drewN_drewN _ _ _, HN.out⟩
          case measure => simp [intOf]; omega
        · have HN := Lib.hid (at_not hp he)
          have hbv : bs.getD k false = !t := by cases hh : bs.getD k false <;> cases t <;> simp_all
          rw [hbv] at hkc
          have hkk : (k : Int) < 8 := by omega
          have hne : (!((!t) == t)) = true := by cases t <;> rfl
          clear hp he hbv
          go_wp2
          go_quiet (fail)
          go_wp2
          go_ret
          exact ⟨ret_of (by rw [HN.out]; rfl), by first | exact below_draws (below_draws hb _) _ | exact below_draws hb _⟩
    · have hk8 : k = 8 := by omega
      subst hk8
      have HN := Lib.hid (at_of_hold hs hn hat)
      go_wp2
      go_ret
      exact ⟨ret_of (by rw [HN.out]; rfl), below_draws hb _⟩

theorem can_of {n : Nat} {s : Int} {bs : List Bool} {t : Bool} {l : List Int} {x y : Bool} (h : isTrip n s l = x) (k : allAt bs t l = y) : canGo n s bs t l = (x && y) := and_of h k
theorem size_crowd : (Try.prog.info? 92).map (·.size) = some 8 := by kernel_rfl

theorem crowd_one (l : List Int) : (crowdCells l).all (·.oneCell') = true := by simp [crowdCells, Value.oneCell']

/-- What tripOf hands back. -/
def TripPost (n : Nat) (s : Int) (bs : List Bool) (t : Bool) (l : List Int) (w : World) (e : Ending) (w' : World) : Prop :=
  ((canGo n s bs t l = true ∧ e = .returned (.tuple #[.agg (crowdCells l), .bool true])) ∨ (canGo n s bs t l = false ∧ e = .returned (.tuple #[.agg (crowdCells []), .bool false]))) ∧ Below w.heap.size w w'

end Go.Proofs.Ytifaadjbkbdbnaa
