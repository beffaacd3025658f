/-
  What is proved: contracts of the model's and the program's LoadOf. Conditions: the lists are read as they lie; the program's row of weights has no less room than weights.
  What is proved: two places compared by ==. Conditions: none.
  What is proved: the contract of the program's crowd of those who can row. Conditions: the list is read as it lies; at most eight people.
  What is proved: rides of a crew as lists of people, the cells of a list of legs, and the comparison of crowds as arrays. Conditions: none.
  What is proved: the contract of the program's legs of a crew. Conditions: what is asked of a crew's people, but for what the boat carries, which may be any number.
  What is proved: the contract of the program's river of a crew. Conditions: what is asked of a crew's people, but for what the boat carries.
  What is proved: the contract of the program's closure that tells the rides in a place. Conditions: at most eight people; the lists are rising ones of people.
  What is proved: the contract of the program's state behind a ride of a crew. Conditions: lists are read as they lie; at most eight people; the lists are rising ones of people.
  What is proved: the contract of the model's list of a group told by bits. Conditions: eight bits.
  What is proved: contracts of the model's tests of a row, told by bits and told as a list. Conditions: at most four couples.
-/
import Derived.Deep.DeepCutAuto
import Derived.Deep.RegionHeld3
import Derived.Test.YtoedcieofjcgkaaJ4TeachPerson
set_option linter.unusedSimpArgs false
set_option linter.unusedVariables false
namespace Go.Proofs.Ytoedcieofjcgkaa
open Go.RowKit

theorem stepsUp_ge {l : List Int} {hi : Int} (hs : StepsTo l hi l.length) : ∀ k, k < l.length → (k : Int) ≤ l.getD k 0
  | 0, h => (hs 0 h).1
  | k + 1, h => by
    have h1 := stepsUp_ge hs k (by omega)
    rcases (hs (k + 1) h).2.2 with h2 | h2
    · omega
    · rw [Nat.add_sub_cancel] at h2; omega
theorem stepsUp_short {l : List Int} {n : Nat} (hs : StepsTo l ((n : Int) - 1) l.length) : l.length ≤ n := by
  by_cases h0 : l.length = 0
  · omega
  · have h1 := stepsUp_ge hs (l.length - 1) (by omega)
    have h2 := (hs (l.length - 1) (by omega)).2.1
    omega
theorem rising_short {l : List Int} {n : Nat} (h : rising l ((n : Int) - 1) = true) : l.length ≤ n := stepsUp_short (rising_steps h)
theorem rising_in {l : List Int} {n : Nat} (h : rising l ((n : Int) - 1) = true) : ∀ y ∈ l, 0 ≤ y ∧ y < n := fun y hy => by
  have := mem_steps (rising_steps h) hy; omega
theorem rising_nil (hi : Int) : rising [] hi = true := rising_yes (StepsTo.start _ _) (by simp)

/-- Can a load be told? -/
noncomputable def loadOk (xs : List Int) (m : Nat) (s : Int) (l : List Int) : Bool := isCrew xs m s && rising l ((xs.length : Int) - 1)
noncomputable def loadRes (xs : List Int) (m : Nat) (s : Int) (l : List Int) : Int := if loadOk xs m s l then loadOf xs l else 0
theorem loadOk_no {xs : List Int} {m : Nat} {s : Int} {l : List Int} (h : isCrew xs m s = false) : loadOk xs m s l = false := by simp [loadOk, h]
theorem loadOk_fall {xs : List Int} {m : Nat} {s : Int} {l : List Int} (h : rising l ((xs.length : Int) - 1) = false) : loadOk xs m s l = false := by simp [loadOk, h]
theorem loadOk_yes {xs : List Int} {m : Nat} {s : Int} {l : List Int} (h : isCrew xs m s = true) (h2 : rising l ((xs.length : Int) - 1) = true) : loadOk xs m s l = true := by simp [loadOk, h, h2]
theorem loadRes_no {xs : List Int} {m : Nat} {s : Int} {l : List Int} (h : loadOk xs m s l = false) : loadRes xs m s l = 0 := by simp [loadRes, h]
theorem loadRes_yes {xs : List Int} {m : Nat} {s : Int} {l : List Int} (h : loadOk xs m s l = true) : loadRes xs m s l = loadOf xs l := by simp [loadRes, h]

set_option maxHeartbeats 1600000 in
theorem specLoadOf_any (A : Option Addr) (n c : Nat) (B : Option Addr) (m d : Nat) (xs : List Int) (s : Int) (D : Option Addr) (q z : Nat) (l : List Int) (w : World) (hA : Holds w A (nums xs)) (hD : Holds w D (nums l)) (hx : xs.length = n) (hz : l.length = q) (hn : n ≤ 9223372036854775807) (hq : q ≤ 9223372036854775807) :
    Calls Try.prog 41 #[.agg #[.slice A n c, .slice B m d, .int .i64 s], .slice D q z] w fun e w' => e = .returned (.tuple #[.int .i64 (loadRes xs m s l), .bool (loadOk xs m s l)]) ∧ Below w.heap.size w w' := by
  subst hx hz
  have hA2 := hA.alloc (.cells #[.slice A xs.length c, .slice B m d, .int .i64 s] 39)
  have hD2 := hD.alloc (.cells #[.slice A xs.length c, .slice B m d, .int .i64 s] 39)
  have h0 := Whole.fresh w 39 #[.slice A xs.length c, .slice B m d, .int .i64 s]
  have hb1 := below1 w (.cells #[.slice A xs.length c, .slice B m d, .int .i64 s] 39)
  cases hp : isCrew xs m s
  · have HO := Lib.hid (loadOk_no (l := l) hp)
    have HR := Lib.hid (loadRes_no HO.out)
    have HP := Lib.hid hp
    clear hp
    go_enter Try.func41, Try.ntmps41
    go_wp2_with fail
    refine (loGood_any A _ c B m d xs s _ hA2 rfl hn).mono ?_
    rintro e w1 ⟨rfl, hb⟩
    rw [HP.out]
    go_wp2
    go_ret2
    exact ⟨ret_of (by rw [HO.out, HR.out]; rfl), below_then hb1 hb (by simp)⟩
  · have hok := isCrew_ok hp
    have h7 : xs.length ≤ 7 := hok.seven
    cases hr : rising l ((xs.length : Int) - 1)
    · have HO := Lib.hid (loadOk_fall (m := m) (s := s) hr)
      have HR := Lib.hid (loadRes_no HO.out)
      have HP := Lib.hid hp
      have HI := Lib.hid hr
      clear hp hr hok
      go_enter Try.func41, Try.ntmps41
      go_wp2_with fail
      refine (loGood_any A _ c B m d xs s _ hA2 rfl hn).mono ?_
      rintro e w1 ⟨rfl, hb⟩
      rw [HP.out]
      have ht := below_then hb1 hb (by simp)
      obtain ⟨c0, c1, c2⟩ := (h0.below hb).cells3
      go_wp2_with fail
      refine (l1Rising_any D _ z l _ _ (by exact hD.below ht) rfl hq).mono ?_
      rintro e w2 ⟨rfl, rfl⟩
      rw [HI.out]
      go_wp2
      go_ret2
      exact ⟨ret_of (by rw [HO.out, HR.out]; rfl), ht⟩
    · have HO := Lib.hid (loadOk_yes hp hr)
      have HR := Lib.hid (loadRes_yes HO.out)
      have HP := Lib.hid hp
      have HI := Lib.hid hr
      have hls := rising_short hr
      have HIN := Lib.hid (rising_in hr)
      have HW := Lib.hid hok.weights
      clear hp hr hok
      go_enter Try.func41, Try.ntmps41
      go_wp2_with fail
      refine (loGood_any A _ c B m d xs s _ hA2 rfl hn).mono ?_
      rintro e w1 ⟨rfl, hb⟩
      rw [HP.out]
      have ht := below_then hb1 hb (by simp)
      obtain ⟨c0, c1, c2⟩ := (h0.below hb).cells3
      go_wp2_with fail
      refine (l1Rising_any D _ z l _ _ (by exact hD.below ht) rfl hq).mono ?_
      rintro e w2 ⟨rfl, rfl⟩
      rw [HI.out]
      go_wp2_with fail
      refine (loLoad_any A _ c B m d xs s D _ z l _ (by exact hA.below ht) (by exact hD.below ht) rfl rfl h7 hq HW.out HIN.out (by omega)).mono ?_
      rintro e w3 ⟨rfl, hb3⟩
      go_wp2
      go_ret2
      exact ⟨ret_of (by rw [HO.out, HR.out]; rfl), below_then ht hb3 ht.size⟩

set_option maxHeartbeats 1600000 in
theorem implLoadOf_any (A : Option Addr) (n c : Nat) (B : Option Addr) (m d : Nat) (xs : List Int) (s : Int) (D : Option Addr) (q z : Nat) (l : List Int) (w : World) (hA : Holds w A (nums xs)) (hD : Holds w D (nums l)) (hx : xs.length = n) (hz : l.length = q) (hn : n ≤ 9223372036854775807) (hq : q ≤ 9223372036854775807) (hc : n ≤ c) (hcc : c ≤ 9223372036854775807) :
    Calls Try.prog 42 #[.agg #[.slice A n c, .slice B m d, .int .i64 s], .slice D q z] w fun e w' => e = .returned (.tuple #[.int .i64 (loadRes xs m s l), .bool (loadOk xs m s l)]) ∧ Below w.heap.size w w' := by
  subst hx hz
  have hA2 := hA.alloc (.cells #[.slice A xs.length c, .slice B m d, .int .i64 s] 39)
  have hD2 := hD.alloc (.cells #[.slice A xs.length c, .slice B m d, .int .i64 s] 39)
  have h0 := Whole.fresh w 39 #[.slice A xs.length c, .slice B m d, .int .i64 s]
  have hb1 := below1 w (.cells #[.slice A xs.length c, .slice B m d, .int .i64 s] 39)
  cases hp : isCrew xs m s
  · have HO := Lib.hid (loadOk_no (l := l) hp)
    have HR := Lib.hid (loadRes_no HO.out)
    have HP := Lib.hid hp
    clear hp
    go_enter Try.func42, Try.ntmps42
    go_wp2_with fail
    refine (isCrew_any A _ c B m d xs s _ hA2 rfl hn).mono ?_
    rintro e w1 ⟨rfl, hb⟩
    rw [HP.out]
    go_wp2
    go_ret2
    exact ⟨ret_of (by rw [HO.out, HR.out]; rfl), below_then hb1 hb (by simp)⟩
  · have hok := isCrew_ok hp
    have h7 : xs.length ≤ 7 := hok.seven
    cases hr : isTrip xs.length xs.length l
    · by_cases hl0 : l.length = 0
      · have hln : l = [] := List.eq_nil_of_length_eq_zero hl0
        subst hln
        have hr' : rising [] ((xs.length : Int) - 1) = true := rising_nil _
        have HO := Lib.hid (loadOk_yes hp hr')
        have HR := Lib.hid (loadRes_yes HO.out)
        have HP := Lib.hid hp
        have HI := Lib.hid hr
        have HW := Lib.hid hok.weights
        clear hp hr hok hr' hl0
        go_enter Try.func42, Try.ntmps42
        go_wp2_with fail
        refine (isCrew_any A _ c B m d xs s _ hA2 rfl hn).mono ?_
        rintro e w1 ⟨rfl, hb⟩
        rw [HP.out]
        have ht := below_then hb1 hb (by simp)
        have h01 := h0.below hb
        obtain ⟨c0, c1, c2⟩ := h01.cells3
        go_wp2_with fail
        refine (crowdOf_any D _ _ z [] _ _ (by exact hD.below ht) rfl hq (by omega)).mono ?_
        rintro e w2 ⟨(⟨hno, -⟩ | ⟨-, rfl⟩), hb2⟩
        case inl => rw [HI.out] at hno; cases hno
        have ht2 := below_then ht hb2 ht.size
        have h02 := h01.below hb2
        obtain ⟨d0, d1, d2⟩ := h02.cells3
        clear c0 c1 c2
        unfold crowdCells
        have hl2 := h02.lt
        have hsz : w.heap.size + 1 ≤ w2.heap.size := by have h1 := hb.size; have h2 := hb2.size; simp at h1; omega
        go_wp2_with fail
        refine (loader_any A _ c B m d s _ h7 hc hcc).mono ?_
        rintro e w3 ⟨g, rfl, hg, hwg, hb3⟩
        have ht3 := below_then (ht2.alloc ht2.size (.cells #[.bool (has [] 0), .bool (has [] 1), .bool (has [] 2), .bool (has [] 3), .bool (has [] 4), .bool (has [] 5), .bool (has [] 6), .bool (has [] 7)] 77)) hb3 (by have := ht2.size; simp; omega)
        unfold loadFn
        go_wp2_with fail
        refine (loadFn_any A _ _ g xs D _ z [] _ hwg (by exact hA.below ht3) (by exact hD.below ht3) rfl rfl h7 hq HW.out (fun y hy => by cases hy) (by simp)).mono ?_
        rintro e w4 ⟨rfl, hb4⟩
        go_wp2
        go_ret2
        exact ⟨ret_of (by rw [HO.out, HR.out]; rfl), below_then ht3 hb4 ht3.size⟩
      · have hpos : (0 : Int) < l.length := by omega
        have hr' : rising l ((xs.length : Int) - 1) = false := by
          cases h5 : rising l ((xs.length : Int) - 1)
          · rfl
          · have h6 := rising_short h5
            rw [isTrip, h5, within_yes (by omega) (by omega)] at hr; cases hr
        have HO := Lib.hid (loadOk_fall (m := m) (s := s) hr')
        have HR := Lib.hid (loadRes_no HO.out)
        have HP := Lib.hid hp
        have HI := Lib.hid hr
        clear hp hr hok hr'
        go_enter Try.func42, Try.ntmps42
        go_wp2_with fail
        refine (isCrew_any A _ c B m d xs s _ hA2 rfl hn).mono ?_
        rintro e w1 ⟨rfl, hb⟩
        rw [HP.out]
        have ht := below_then hb1 hb (by simp)
        have h01 := h0.below hb
        obtain ⟨c0, c1, c2⟩ := h01.cells3
        go_wp2_with fail
        refine (crowdOf_any D _ _ z l _ _ (by exact hD.below ht) rfl hq (by omega)).mono ?_
        rintro e w2 ⟨(⟨hno, -⟩ | ⟨-, rfl⟩), hb2⟩
        case inl => rw [HI.out] at hno; cases hno
        have ht2 := below_then ht hb2 ht.size
        unfold crowdCells
        go_wp2
        go_ret2
        exact ⟨ret_of (by rw [HO.out, HR.out]; rfl), ht2.alloc ht2.size _⟩
    · have hr' : rising l ((xs.length : Int) - 1) = true := by
        simp only [isTrip, Bool.and_eq_true] at hr; exact hr.2
      have HO := Lib.hid (loadOk_yes hp hr')
      have HR := Lib.hid (loadRes_yes HO.out)
      have HP := Lib.hid hp
      have HI := Lib.hid hr
      have hls := rising_short hr'
      have HIN := Lib.hid (rising_in hr')
      have HW := Lib.hid hok.weights
      clear hp hr hok hr'
      go_enter Try.func42, Try.ntmps42
      go_wp2_with fail
      refine (isCrew_any A _ c B m d xs s _ hA2 rfl hn).mono ?_
      rintro e w1 ⟨rfl, hb⟩
      rw [HP.out]
      have ht := below_then hb1 hb (by simp)
      have h01 := h0.below hb
      obtain ⟨c0, c1, c2⟩ := h01.cells3
      go_wp2_with fail
      refine (crowdOf_any D _ _ z l _ _ (by exact hD.below ht) rfl hq (by omega)).mono ?_
      rintro e w2 ⟨(⟨-, rfl⟩ | ⟨hno, -⟩), hb2⟩
      case inr => rw [HI.out] at hno; cases hno
      have ht2 := below_then ht hb2 ht.size
      have h02 := h01.below hb2
      obtain ⟨d0, d1, d2⟩ := h02.cells3
      clear c0 c1 c2
      unfold crowdCells
      have hl2 := h02.lt
      have hsz : w.heap.size + 1 ≤ w2.heap.size := by have h1 := hb.size; have h2 := hb2.size; simp at h1; omega
      go_wp2_with fail
      refine (loader_any A _ c B m d s _ h7 hc hcc).mono ?_
      rintro e w3 ⟨g, rfl, hg, hwg, hb3⟩
      have ht3 := below_then (ht2.alloc ht2.size (.cells #[.bool (has l 0), .bool (has l 1), .bool (has l 2), .bool (has l 3), .bool (has l 4), .bool (has l 5), .bool (has l 6), .bool (has l 7)] 77)) hb3 (by have := ht2.size; simp; omega)
      unfold loadFn
      go_wp2_with fail
      refine (loadFn_any A _ _ g xs D _ z l _ hwg (by exact hA.below ht3) (by exact hD.below ht3) rfl rfl h7 hq HW.out HIN.out (by omega)).mono ?_
      rintro e w4 ⟨rfl, hb4⟩
      go_wp2
      go_ret2
      exact ⟨ret_of (by rw [HO.out, HR.out]; rfl), below_then ht3 hb4 ht3.size⟩
end Go.Proofs.Ytoedcieofjcgkaa

namespace Go.Proofs.Ytoedcieofjcgkaa
open Go.RowKit

/-- Two places compared. -/
def sameEight (v0 v1 v2 v3 v4 v5 v6 v7 u0 u1 u2 u3 u4 u5 u6 u7 : Bool) : Bool := v0 == u0 && v1 == u1 && v2 == u2 && v3 == u3 && v4 == u4 && v5 == u5 && v6 == u6 && v7 == u7
def samePlace (v0 v1 v2 v3 v4 v5 v6 v7 v8 u0 u1 u2 u3 u4 u5 u6 u7 u8 : Bool) : Bool := sameEight v0 v1 v2 v3 v4 v5 v6 v7 u0 u1 u2 u3 u4 u5 u6 u7 && v8 == u8
set_option maxHeartbeats 1600000 in
theorem eight_eq (v0 v1 v2 v3 v4 v5 v6 v7 u0 u1 u2 u3 u4 u5 u6 u7 : Bool) (w : World) : (Op.equalIn 9998 75 (.agg #[.bool v0, .bool v1, .bool v2, .bool v3, .bool v4, .bool v5, .bool v6, .bool v7]) (.agg #[.bool u0, .bool u1, .bool u2, .bool u3, .bool u4, .bool u5, .bool u6, .bool u7])).run Try.prog w = .ok (sameEight v0 v1 v2 v3 v4 v5 v6 v7 u0 u1 u2 u3 u4 u5 u6 u7) w := by
  unfold sameEight
  have uB := Try.underlying4
  have aB := Try.isAgg4
  have zB := Try.sizeOf4
  rw [show (9998 : Nat) = 9997 + 1 from rfl, Op.equalIn]
  simp only [Sem.run_bind, run_underlying Try.underlying75, Result.andThen_ok]
  simp only [Std.Legacy.Range.forIn_eq_forIn_range', Std.Legacy.Range.size, Nat.sub_zero, Nat.add_sub_cancel, Nat.div_one, List.range'_succ, List.range'_zero, List.forIn_cons, List.forIn_nil]
  go_simp
  by_cases h0 : v0 = u0
  case neg => simp [h0]
  case pos =>
    subst h0
    by_cases h1 : v1 = u1
    case neg => simp [h1]
    case pos =>
      subst h1
      by_cases h2 : v2 = u2
      case neg => simp [h2]
      case pos =>
        subst h2
        by_cases h3 : v3 = u3
        case neg => simp [h3]
        case pos =>
          subst h3
          by_cases h4 : v4 = u4
          case neg => simp [h4]
          case pos =>
            subst h4
            by_cases h5 : v5 = u5
            case neg => simp [h5]
            case pos =>
              subst h5
              by_cases h6 : v6 = u6
              case neg => simp [h6]
              case pos =>
                subst h6
                by_cases h7 : v7 = u7
                case neg => simp [h7]
                case pos =>
                  subst h7
                  simp
set_option maxHeartbeats 1600000 in
@[go_sem high] theorem place_eq (v0 v1 v2 v3 v4 v5 v6 v7 v8 u0 u1 u2 u3 u4 u5 u6 u7 u8 : Bool) (w : World) : (Op.equalIn 10000 79 (.agg #[.bool v0, .bool v1, .bool v2, .bool v3, .bool v4, .bool v5, .bool v6, .bool v7, .bool v8]) (.agg #[.bool u0, .bool u1, .bool u2, .bool u3, .bool u4, .bool u5, .bool u6, .bool u7, .bool u8])).run Try.prog w = .ok (samePlace v0 v1 v2 v3 v4 v5 v6 v7 v8 u0 u1 u2 u3 u4 u5 u6 u7 u8) w := by
  have h := eight_eq v0 v1 v2 v3 v4 v5 v6 v7 u0 u1 u2 u3 u4 u5 u6 u7
  unfold samePlace
  generalize sameEight v0 v1 v2 v3 v4 v5 v6 v7 u0 u1 u2 u3 u4 u5 u6 u7 = b at h ⊢
  go_simp
  by_cases h8 : v8 = u8 <;> cases b <;> simp [h8]

theorem sameBits_ext {bs cs : List Bool} (hl : bs.length = cs.length) (h8 : bs.length ≤ 8) : sameEight (bs.getD 0 false) (bs.getD 1 false) (bs.getD 2 false) (bs.getD 3 false) (bs.getD 4 false) (bs.getD 5 false) (bs.getD 6 false) (bs.getD 7 false) (cs.getD 0 false) (cs.getD 1 false) (cs.getD 2 false) (cs.getD 3 false) (cs.getD 4 false) (cs.getD 5 false) (cs.getD 6 false) (cs.getD 7 false) = sameBits bs cs := by
  by_cases h : bs = cs
  · subst h
    rw [sameBits_yes rfl]
    simp [sameEight]
  · rw [sameBits_no h]
    cases hs : sameEight (bs.getD 0 false) (bs.getD 1 false) (bs.getD 2 false) (bs.getD 3 false) (bs.getD 4 false) (bs.getD 5 false) (bs.getD 6 false) (bs.getD 7 false) (cs.getD 0 false) (cs.getD 1 false) (cs.getD 2 false) (cs.getD 3 false) (cs.getD 4 false) (cs.getD 5 false) (cs.getD 6 false) (cs.getD 7 false)
    · rfl
    · exfalso
      apply h
      simp only [sameEight, Bool.and_eq_true, beq_iff_eq] at hs
      obtain ⟨⟨⟨⟨⟨⟨⟨e0, e1⟩, e2⟩, e3⟩, e4⟩, e5⟩, e6⟩, e7⟩ := hs
      apply List.ext_getElem hl
      intro i h1 h2
      have g : ∀ (l : List Bool) (h : i < l.length), l[i] = l.getD i false := fun l h => by simp [h]
      rw [g bs h1, g cs h2]
      match i, h1 with
      | 0, _ => exact e0
      | 1, _ => exact e1
      | 2, _ => exact e2
      | 3, _ => exact e3
      | 4, _ => exact e4
      | 5, _ => exact e5
      | 6, _ => exact e6
      | 7, _ => exact e7
      | k + 8, h => omega
end Go.Proofs.Ytoedcieofjcgkaa

namespace Go.Proofs.Ytoedcieofjcgkaa
open Go.RowKit

/-- A list of truth values as eight cells. -/
def rowsFn (bs : List Bool) : Nat → Bool := fun i => bs.getD i false
theorem splice_crowd (bs : List Bool) (h : bs.length ≤ 8) : splice (cells8 (fun _ => false)).toList 0 (bits bs) = (cells8 (rowsFn bs)).toList := by
  match bs, h with
  | [], _ => rfl
  | [_], _ => rfl
  | [_, _], _ => rfl
  | [_, _, _], _ => rfl
  | [_, _, _, _], _ => rfl
  | [_, _, _, _, _], _ => rfl
  | [_, _, _, _, _, _], _ => rfl
  | [_, _, _, _, _, _, _], _ => rfl
  | [_, _, _, _, _, _, _, _], _ => rfl
  | _ :: _ :: _ :: _ :: _ :: _ :: _ :: _ :: _ :: _, h => simp at h

set_option maxHeartbeats 1600000 in
theorem rowersOf_any (A : Option Addr) (n c : Nat) (B : Option Addr) (m d : Nat) (bs : List Bool) (s : Int) (w : World) (hB : Holds w B (bits bs)) (hy : bs.length = m) (hm : m ≤ 8) :
    Calls Try.prog 98 #[.agg #[.slice A n c, .slice B m d, .int .i64 s]] w fun e w' => e = .returned (.agg (cells8 (rowsFn bs))) ∧ Below w.heap.size w w' := by
  subst hy
  have HB := hB.alloc (.cells #[.slice A n c, .slice B bs.length d, .int .i64 s] 39)
  go_enter Try.func98, Try.ntmps98
  go_upto_region 2 with fail
  have hres := Whole.fresh (w.alloc (.cells #[.slice A n c, .slice B bs.length d, .int .i64 s] 39)) 77 (cells8 (fun _ => false))
  have hblk := Whole.fresh ((w.alloc (.cells #[.slice A n c, .slice B bs.length d, .int .i64 s] 39)).alloc (.cells (cells8 (fun _ => false)) 77)) 77 (cells8 (fun _ => false))
  simp only [World.size_alloc] at hblk hres
  have hfar := (HB.alloc (.cells (cells8 (fun _ => false)) 77)).alloc (.cells (cells8 (fun _ => false)) 77)
  have hb2 := below2 w (.cells #[.slice A n c, .slice B bs.length d, .int .i64 s] 39) (.cells (cells8 (fun _ => false)) 77)
  have hb3 := below1 ((w.alloc (.cells #[.slice A n c, .slice B bs.length d, .int .i64 s] 39)).alloc (.cells (cells8 (fun _ => false)) 77)) (.cells (cells8 (fun _ => false)) 77)
  simp only [World.size_alloc] at hb3
  have hsrc : 0 < (bits bs).length → (some ⟨w.heap.size + 1 + 1, 0, none⟩ : Option Addr) = some ⟨w.heap.size + 1 + 1, 0, none⟩ ∧ ∃ ad : Addr, B = some ad ∧ ∀ j v, (bits bs)[j]? = some v → (((w.alloc (.cells #[.slice A n c, .slice B bs.length d, .int .i64 s] 39)).alloc (.cells (cells8 (fun _ => false)) 77)).alloc (.cells (cells8 (fun _ => false)) 77)).cell? (ad.add j) = some v := by
    intro h0
    refine ⟨rfl, ?_⟩
    rcases hfar with h | ⟨b, o, hA, hb, hc⟩
    · rw [h] at h0; simp at h0
    · exact ⟨_, hA, fun j v hv => by rw [show (⟨b, o, none⟩ : Addr).add j = ⟨b, o + j, none⟩ from by unfold Addr.add; split <;> simp_all]; exact hc j v hv⟩
  have HSRC := Lib.hid hsrc
  have hbl : (bits bs).length = Nat.min 8 bs.length := by rw [bits_len]; exact (Nat.min_eq_right hm).symm
  have hbl2 : (bits bs).length = Nat.min bs.length 8 := by rw [bits_len]; exact (Nat.min_eq_left hm).symm
  have HBL := Lib.hid hbl2
  have hone : ∀ v ∈ bits bs, v.oneCell' = true := by
    intro v hv
    simp only [bits, List.mem_map] at hv
    obtain ⟨x, -, rfl⟩ := hv
    rfl
  have HONE := Lib.hid hone
  have hfit : 0 + (bits bs).length ≤ (cells8 (fun _ => false)).toList.length := by rw [bits_len]; show 0 + bs.length ≤ 8; omega
  have HFIT := Lib.hid hfit
  clear hsrc hbl hbl2 hone hfit hfar HB
  unfold cells8 at hblk hb3 hres HSRC HFIT
  go_region_law (refine step_copy_splice rfl (.tmp 5) (.tmp 7) 34 34 rfl 4 Try.underlying34 size_bool (some ⟨w.heap.size + 1 + 1, 0, none⟩) B 8 8 bs.length d (by simp [Act.eval]) (by simp [Act.eval]) (w.heap.size + 1 + 1) 0 _ 77 (by exact hblk.drew) (bits bs) HBL.out (by exact HSRC.out) HFIT.out HONE.out (w.heap.size + 1 + 1) _ (by exact hb3.drew) (Nat.le_refl _) ?_; intro w' hw' hb')
  have hq : Whole w' (w.heap.size + 1 + 1) 77 (cells8 (rowsFn bs)) := by
    have h := hw'.out
    have h2 := splice_crowd bs hm
    unfold cells8 at h2
    rw [h2] at h
    exact h
  have hr := hres.below' hb' (by omega)
  obtain ⟨a0, a1, a2, a3, a4, a5, a6, a7⟩ := cells8_cells hq
  have hr2 : Whole w' (w.heap.size + 1) 77 (cells8 (fun _ => false)) := hr
  obtain ⟨r0, r1, r2, r3, r4, r5, r6, r7⟩ := cells8_cells hr2
  obtain ⟨f0, f1, f2, f3, f4, f5, f6, f7, f8⟩ := place_open hr
  have hlt1 := hr.lt
  have hbw : Below w.heap.size w w' := below_then hb2 (by simpa [cells8] using hb') (by simp; omega)
  clear hw' hblk hres hb3 HSRC HBL HONE HFIT hq hr2
  go_wp2
  refine bodyPost_ret (v := .agg (cells8 (rowsFn bs))) (by simp [results, Try.results98, go_sem, r0, r1, r2, r3, r4, r5, r6, r7, cells8]) rfl ⟨rfl, ?_⟩
  exact below_set (below_set (below_set (below_set (below_set (below_set (below_set (below_set hbw (by omega)) (by omega)) (by omega)) (by omega)) (by omega)) (by omega)) (by omega)) (by omega)
end Go.Proofs.Ytoedcieofjcgkaa

namespace Go.Proofs.Ytoedcieofjcgkaa
open Go.RowKit

set_option maxHeartbeats 1600000 in
@[go_sem high] theorem eight_eq_top (v0 v1 v2 v3 v4 v5 v6 v7 u0 u1 u2 u3 u4 u5 u6 u7 : Bool) (w : World) : (Op.equalIn 10000 75 (.agg #[.bool v0, .bool v1, .bool v2, .bool v3, .bool v4, .bool v5, .bool v6, .bool v7]) (.agg #[.bool u0, .bool u1, .bool u2, .bool u3, .bool u4, .bool u5, .bool u6, .bool u7])).run Try.prog w = .ok (sameEight v0 v1 v2 v3 v4 v5 v6 v7 u0 u1 u2 u3 u4 u5 u6 u7) w := by
  unfold sameEight
  have uB := Try.underlying4
  have aB := Try.isAgg4
  have zB := Try.sizeOf4
  rw [show (10000 : Nat) = 9999 + 1 from rfl, Op.equalIn]
  simp only [Sem.run_bind, run_underlying Try.underlying75, Result.andThen_ok]
  simp only [Std.Legacy.Range.forIn_eq_forIn_range', Std.Legacy.Range.size, Nat.sub_zero, Nat.add_sub_cancel, Nat.div_one, List.range'_succ, List.range'_zero, List.forIn_cons, List.forIn_nil]
  go_simp
  by_cases h0 : v0 = u0
  case neg => simp [h0]
  by_cases h1 : v1 = u1
  case neg => simp [h0, h1]
  by_cases h2 : v2 = u2
  case neg => simp [h0, h1, h2]
  by_cases h3 : v3 = u3
  case neg => simp [h0, h1, h2, h3]
  by_cases h4 : v4 = u4
  case neg => simp [h0, h1, h2, h3, h4]
  by_cases h5 : v5 = u5
  case neg => simp [h0, h1, h2, h3, h4, h5]
  by_cases h6 : v6 = u6
  case neg => simp [h0, h1, h2, h3, h4, h5, h6]
  by_cases h7 : v7 = u7
  case neg => simp [h0, h1, h2, h3, h4, h5, h6, h7]
  simp [h0, h1, h2, h3, h4, h5, h6, h7]

/-- Can one of these people row? -/
def canRow (bs : List Bool) (l : List Int) : Bool := l.any fun k => bs.getD k.toNat false
/-- Is a list of people a ride somewhere? -/
def legOk (xs : List Int) (bs : List Bool) (s : Int) (l : List Int) : Bool := canRow bs l && decide (loadOf xs l ≤ s)
/-- All rides of a crew among some lists. -/
def legsIn (xs : List Int) (bs : List Bool) (s : Int) (ls : List (List Int)) : List (List Int) := ls.filter (legOk xs bs s)
def crewLists (xs : List Int) (bs : List Bool) (s : Int) : List (List Int) := legsIn xs bs s (upLists xs.length xs.length)
theorem legs_no {xs : List Int} {bs : List Bool} {s : Int} {ls : List (List Int)} {j : Nat} (hj : j < ls.length) (h : legOk xs bs s ls[j] = false) : legsIn xs bs s (ls.take (j + 1)) = legsIn xs bs s (ls.take j) := by
  rw [List.take_succ_eq_append_getElem hj, legsIn, List.filter_append, legsIn]; simp [h]
theorem legs_yes {xs : List Int} {bs : List Bool} {s : Int} {ls : List (List Int)} {j : Nat} (hj : j < ls.length) (h : legOk xs bs s ls[j] = true) : legsIn xs bs s (ls.take (j + 1)) = legsIn xs bs s (ls.take j) ++ [ls[j]] := by
  rw [List.take_succ_eq_append_getElem hj, legsIn, List.filter_append, legsIn]; simp [h]
theorem legs_len (xs : List Int) (bs : List Bool) (s : Int) (ls : List (List Int)) : (legsIn xs bs s ls).length ≤ ls.length := List.length_filter_le _ _
/-- Nobody goes ashore with the rowers where nobody can row. -/
theorem ashore {bs : List Bool} {l : List Int} (hl : ∀ x ∈ l, 0 ≤ x ∧ x < 8) :
    sameEight (has l 0 && !rowsFn bs 0) (has l 1 && !rowsFn bs 1) (has l 2 && !rowsFn bs 2) (has l 3 && !rowsFn bs 3) (has l 4 && !rowsFn bs 4) (has l 5 && !rowsFn bs 5) (has l 6 && !rowsFn bs 6) (has l 7 && !rowsFn bs 7) (has l 0) (has l 1) (has l 2) (has l 3) (has l 4) (has l 5) (has l 6) (has l 7) = !canRow bs l := by
  have key : ∀ a b : Bool, ((a && !b) == a) = !(a && b) := by decide
  simp only [sameEight, key]
  cases hc : canRow bs l
  · have h0 : ∀ i, i < 8 → (has l i && rowsFn bs i) = false := fun i _ => by
      cases hh : has l i
      · rfl
      · have h1 := has_iff.1 hh
        rw [canRow, List.any_eq_false] at hc
        have h2 := hc _ h1
        simpa [rowsFn] using h2
    rw [h0 0 (by omega), h0 1 (by omega), h0 2 (by omega), h0 3 (by omega), h0 4 (by omega), h0 5 (by omega), h0 6 (by omega), h0 7 (by omega)]
    rfl
  · rw [canRow, List.any_eq_true] at hc
    obtain ⟨x, hx, hr⟩ := hc
    obtain ⟨h0, h8⟩ := hl x hx
    obtain ⟨i, rfl⟩ := Int.eq_ofNat_of_zero_le h0
    have h1 : (has l i && rowsFn bs i) = true := by rw [has_iff.2 hx, rowsFn]; simpa using hr
    have h9 : i = 0 ∨ i = 1 ∨ i = 2 ∨ i = 3 ∨ i = 4 ∨ i = 5 ∨ i = 6 ∨ i = 7 := by omega
    rcases h9 with rfl | rfl | rfl | rfl | rfl | rfl | rfl | rfl <;> rw [h1] <;> simp

theorem info_leg : (Try.prog.info? 142).map (fun i => (i.zero, i.size, i.bytes)) = some (some (.agg #[.bool false, .bool false, .bool false, .bool false, .bool false, .bool false, .bool false, .bool false, .int .i64 0]), 9, 16) := by kernel_rfl
/-- The nine cells of a leg. -/
def legCells (T : List Int → Int) (l : List Int) : Array Value := #[.bool (has l 0), .bool (has l 1), .bool (has l 2), .bool (has l 3), .bool (has l 4), .bool (has l 5), .bool (has l 6), .bool (has l 7), .int .i64 (T l)]
def legsCells (T : List Int → Int) (ls : List (List Int)) : List Value := ls.flatMap fun l => (legCells T l).toList
theorem legsCells_snoc (T : List Int → Int) (ls : List (List Int)) (l : List Int) : legsCells T (ls ++ [l]) = legsCells T ls ++ (legCells T l).toList := by simp [legsCells]
theorem legsCells_get (T : List Int → Int) : ∀ (ls : List (List Int)) (i j : Nat) (hi : i < ls.length), j < 9 → (legsCells T ls)[i * 9 + j]? = (legCells T ls[i])[j]?
  | [], i, j, hi, _ => by simp at hi
  | l :: r, 0, j, hi, hj => by
    rw [show legsCells T (l :: r) = (legCells T l).toList ++ legsCells T r from rfl, Nat.zero_mul, Nat.zero_add, List.getElem?_append_left (by simpa [legCells] using hj)]
    simp
  | l :: r, i + 1, j, hi, hj => by
    have ih := legsCells_get T r i j (by simpa using hi) hj
    rw [show legsCells T (l :: r) = (legCells T l).toList ++ legsCells T r from rfl, List.getElem?_append_right (by simp [legCells]; omega)]
    rw [show (i + 1) * 9 + j - (legCells T l).toList.length = i * 9 + j by simp [legCells]; omega]
    simpa using ih
theorem leg_ones (T : List Int → Int) (l : List Int) : ∀ u ∈ (legCells T l).toList, u.oneCell' = true := by
  intro u hu
  simp only [legCells, List.mem_cons, List.not_mem_nil, or_false] at hu
  rcases hu with rfl | rfl | rfl | rfl | rfl | rfl | rfl | rfl | rfl <;> rfl
def Box3 (g : Nat) (x y z : Value) (w : World) : Prop := w.cell? ⟨g, 0, none⟩ = some x ∧ w.cell? ⟨g, 1, none⟩ = some y ∧ w.cell? ⟨g, 2, none⟩ = some z
theorem box3_of {g : Nat} {t : TypeId} {x y z : Value} {w : World} (h1 : Whole w g t #[x, y, z]) : Box3 g x y z w := ⟨h1.cell 0, h1.cell 1, h1.cell 2⟩
/-- What a call hands back that makes a list of legs. -/
def LegsPost (T : List Int → Int) (ls : List (List Int)) (w : World) (e : Ending) (w' : World) : Prop :=
  ∃ (A : Option Addr) (c : Nat), e = .returned (.slice A ls.length c) ∧ w'.ownsRow w.heap.size 142 9 (.slice A ls.length c) ls.length (legsCells T ls) ∧ Below w.heap.size w w'
end Go.Proofs.Ytoedcieofjcgkaa

namespace Go.Proofs.Ytoedcieofjcgkaa
open Go.RowKit

/-- What stands behind the first statement. -/
def LegsCut (w : World) (A B : Option Addr) (n m d : Nat) (s : Int) (bs : List Bool) (s3 s4 : Value) (wx : World) : Prop :=
  ∃ gl h : Nat, s3 = loadFn gl ∧ s4 = .pointer (some ⟨h, 0, none⟩) ∧ Whole wx gl 33 #[.slice A n n] ∧ Whole wx h 77 (cells8 (rowsFn bs)) ∧ Whole wx w.heap.size 39 #[.slice A n n, .slice B m d, .int .i64 s] ∧ Below w.heap.size w wx

set_option maxHeartbeats 12800000 in
set_option maxRecDepth 100000 in
set_option linter.unusedSimpArgs false in
set_option linter.unusedVariables false in
theorem crewLegs_any (A : Option Addr) (n : Nat) (B : Option Addr) (m d : Nat) (xs : List Int) (bs : List Bool) (s : Int) (w : World) (hA : Holds w A (nums xs)) (hB : Holds w B (bits bs)) (hx : xs.length = n) (hy : bs.length = m) (h1 : 1 ≤ n) (hn7 : n ≤ 7) (hm8 : m ≤ 8) (hw : ∀ y ∈ xs, 1 ≤ y ∧ y ≤ 500) :
    Calls Try.prog 119 #[.agg #[.slice A n n, .slice B m d, .int .i64 s]] w (LegsPost (loadOf xs) (crewLists xs bs s) w) := by
  obtain ⟨i0, hi, hz0, hz1, hz2⟩ := info_parts info_leg
  have HI := Lib.hid hi
  have HZ0 := Lib.hid hz0
  have HZ1 := Lib.hid hz1
  have HZ2 := Lib.hid hz2
  have HX := Lib.hid hx
  have HY := Lib.hid hy
  have HW := Lib.hid hw
  have HSM := Lib.hid (upLists_small (n := n) (m := n) (by omega))
  have HUP : Hid (∀ l ∈ upLists n n, StepsTo l ((n : Int) - 1) l.length ∧ 1 ≤ l.length ∧ l.length ≤ n) := fun l h => up_steps h
  have HCL : Hid (crewLists xs bs s = legsIn xs bs s (upLists n n)) := by show _ = _; rw [crewLists, hx]
  clear hi hz0 hz1 hz2 hx hy hw
  have hcur := Whole.fresh w 39 #[.slice A n n, .slice B m d, .int .i64 s]
  have ht := below1 w (.cells #[.slice A n n, .slice B m d, .int .i64 s] 39)
  go_enter Try.func119, Try.ntmps119
  go_upto_region 1 with fail
  go_cut [3, 4] (fun s3 s4 wx => LegsCut w A B n m d s bs s3 s4 wx)
  case first =>
    go_wp2_with fail
    refine wp_region_held_drew (S := (Box3 w.heap.size (.slice A n n) (.slice B m d) (.int .i64 s))) (by kernel_rfl) (box3_of hcur.drew) (fun hHeld => ?_)
    replace hcur := hcur.drew
    replace ht := ht.drew
    generalize World.drew (World.alloc w (.cells #[.slice A n n, .slice B m d, .int .i64 s] 39)) = w0 at hcur ht hHeld ⊢
    refine wpAnyH_take (i := 0) (v := ?_) rfl (by kernel_rfl) (by kernel_rfl) (by kernel_rfl) (fun _ _ _ h => h) (Or.inl ⟨rfl, ?_⟩) hHeld ?_
    rotate_left
    · intro w' hS; obtain ⟨s0, s1, s2⟩ := hS; go_simp <;> with_reducible rfl
    simp only [Act.put, List.getElem_toArray, List.getElem_cons_succ, List.getElem_cons_zero, List.setIfInBounds_toArray, List.set_cons_succ, List.set_cons_zero]
    refine wpAnyH_take (i := 2) (v := ?_) rfl (by kernel_rfl) (by kernel_rfl) (by kernel_rfl) (fun _ _ _ h => h) (Or.inl ⟨rfl, ?_⟩) hHeld ?_
    rotate_left
    · intro w' hS; obtain ⟨s0, s1, s2⟩ := hS; go_simp <;> with_reducible rfl
    simp only [Act.put, List.getElem_toArray, List.getElem_cons_succ, List.getElem_cons_zero, List.setIfInBounds_toArray, List.set_cons_succ, List.set_cons_zero]
    refine wpAnyH_ready (rs := [1, 4]) (by kernel_rfl) (by simp) (AllReadyH.cons rfl (fun K hK => ?_) (AllReadyH.cons rfl (fun K hK => ?_) AllReadyH.nil))
    · go_simp
      refine (loader_any A n n B m d s _ hn7 (Nat.le_refl _) (by omega)).mono ?_
      rintro e wzl ⟨gl, rfl, hgl, hld, hb⟩
      have hgl0 := hgl
      replace hcur := hcur.below hb
      replace ht := below_then ht hb ht.size
      clear hb hgl
      refine hK.out _ _ (box3_of hcur) (fun hHeld => ?_)
      clear hK K
      try simp only [Act.put, List.getElem_toArray, List.getElem_cons_succ, List.getElem_cons_zero, List.setIfInBounds_toArray, List.set_cons_succ, List.set_cons_zero]
      refine wpAnyH_ready (rs := [3, 4]) (by kernel_rfl) (by simp) (AllReadyH.cons rfl (fun K hK => ?_) (AllReadyH.cons rfl (fun K hK => ?_) AllReadyH.nil))
      · go_simp
        refine (rowersOf_any A n n B m d bs s _ (by exact hB.below ht) HY.out hm8).mono ?_
        rintro e wzlr ⟨rfl, hb⟩
        replace hcur := hcur.below hb
        replace hld := hld.below hb
        replace ht := below_then ht hb ht.size
        clear hb
        refine hK.out _ _ (box3_of hcur) (fun hHeld => ?_)
        clear hK K
        try simp only [Act.put, List.getElem_toArray, List.getElem_cons_succ, List.getElem_cons_zero, List.setIfInBounds_toArray, List.set_cons_succ, List.set_cons_zero]
        refine wpAnyH_ready (rs := [4]) (by kernel_rfl) (by simp) (AllReadyH.cons rfl (fun K hK => ?_) AllReadyH.nil)
        go_simp
        have HLA := Lib.hid ht.size
        have hro := Whole.fresh wzlr 77 #[.bool false, .bool false, .bool false, .bool false, .bool false, .bool false, .bool false, .bool false]
        have hnehcur := hcur.lt
        have hnehld := hld.lt
        replace hcur := hcur.alloc (.cells #[.bool false, .bool false, .bool false, .bool false, .bool false, .bool false, .bool false, .bool false] 77)
        replace hld := hld.alloc (.cells #[.bool false, .bool false, .bool false, .bool false, .bool false, .bool false, .bool false, .bool false] 77)
        replace ht := ht.alloc ht.size (.cells #[.bool false, .bool false, .bool false, .bool false, .bool false, .bool false, .bool false, .bool false] 77)
        have hnsz := World.size_alloc wzlr (.cells #[.bool false, .bool false, .bool false, .bool false, .bool false, .bool false, .bool false, .bool false] 77)
        generalize World.alloc wzlr (.cells #[.bool false, .bool false, .bool false, .bool false, .bool false, .bool false, .bool false, .bool false] 77) = wzlra at hcur hld ht hro hnsz ⊢
        refine hK.out _ _ (box3_of hcur) (fun hHeld => ?_)
        clear hK K
        try simp only [Act.put, List.getElem_toArray, List.getElem_cons_succ, List.getElem_cons_zero, List.setIfInBounds_toArray, List.set_cons_succ, List.set_cons_zero]
        refine wpAnyH_take (i := 5) (v := ?_) rfl (by kernel_rfl) (by kernel_rfl) (by kernel_rfl) (fun _ _ _ h => h) (Or.inl ⟨rfl, ?_⟩) hHeld ?_
        rotate_left
        · intro w' hS; obtain ⟨s0, s1, s2⟩ := hS; go_simp <;> with_reducible rfl
        simp only [Act.put, List.getElem_toArray, List.getElem_cons_succ, List.getElem_cons_zero, List.setIfInBounds_toArray, List.set_cons_succ, List.set_cons_zero]
        refine wpAnyH_ready (rs := [6]) (by kernel_rfl) (by simp) (AllReadyH.cons rfl (fun K hK => ?_) AllReadyH.nil)
        refine wp_store_row 77 (.tmp 4) (.tmp 12) rfl wzlr.heap.size (cells8 (rowsFn bs)) rfl rfl 77 #[.bool false, .bool false, .bool false, .bool false, .bool false, .bool false, .bool false, .bool false] hro size_crowd8 rfl (by simp [cells8, Value.oneCell']) ?_
        have ho := only_setRow wzlra wzlr.heap.size (cells8 (rowsFn bs))
        replace hro := whole_setRow (cells8 (rowsFn bs)) hro
        replace hcur := ho.whole hcur (by first | omega | exact whole_ne hcur (by assumption) (by decide))
        replace hld := ho.whole hld (by first | omega | exact whole_ne hld (by assumption) (by decide))
        replace ht := ho.below ht (by have := HLA.out; omega)
        generalize World.setRow wzlra wzlr.heap.size (cells8 (rowsFn bs)) = wzlras at hro ht hcur hld ho ⊢
        clear ho
        refine hK.out _ _ (box3_of hcur) (fun hHeld => ?_)
        clear hK K
        try simp only [Act.put, List.getElem_toArray, List.getElem_cons_succ, List.getElem_cons_zero, List.setIfInBounds_toArray, List.set_cons_succ, List.set_cons_zero]
        refine wpAnyH_done (by kernel_rfl) ?_ _
        clear hHeld
        go_wp2_with fail
        go_meet
        exact ⟨gl, wzlr.heap.size, rfl, rfl, hld, hro, hcur, ht⟩
      · go_simp
        have HLA := Lib.hid ht.size
        have hro := Whole.fresh wzl 77 #[.bool false, .bool false, .bool false, .bool false, .bool false, .bool false, .bool false, .bool false]
        have hnehcur := hcur.lt
        have hnehld := hld.lt
        replace hcur := hcur.alloc (.cells #[.bool false, .bool false, .bool false, .bool false, .bool false, .bool false, .bool false, .bool false] 77)
        replace hld := hld.alloc (.cells #[.bool false, .bool false, .bool false, .bool false, .bool false, .bool false, .bool false, .bool false] 77)
        replace ht := ht.alloc ht.size (.cells #[.bool false, .bool false, .bool false, .bool false, .bool false, .bool false, .bool false, .bool false] 77)
        have hnsz := World.size_alloc wzl (.cells #[.bool false, .bool false, .bool false, .bool false, .bool false, .bool false, .bool false, .bool false] 77)
        generalize World.alloc wzl (.cells #[.bool false, .bool false, .bool false, .bool false, .bool false, .bool false, .bool false, .bool false] 77) = wzla at hcur hld ht hro hnsz ⊢
        refine hK.out _ _ (box3_of hcur) (fun hHeld => ?_)
        clear hK K
        try simp only [Act.put, List.getElem_toArray, List.getElem_cons_succ, List.getElem_cons_zero, List.setIfInBounds_toArray, List.set_cons_succ, List.set_cons_zero]
        refine wpAnyH_ready (rs := [3]) (by kernel_rfl) (by simp) (AllReadyH.cons rfl (fun K hK => ?_) AllReadyH.nil)
        go_simp
        refine (rowersOf_any A n n B m d bs s _ (by exact hB.below ht) HY.out hm8).mono ?_
        rintro e wzlar ⟨rfl, hb⟩
        replace hcur := hcur.below hb
        replace hld := hld.below hb
        replace hro := hro.below hb
        replace ht := below_then ht hb ht.size
        clear hb
        refine hK.out _ _ (box3_of hcur) (fun hHeld => ?_)
        clear hK K
        try simp only [Act.put, List.getElem_toArray, List.getElem_cons_succ, List.getElem_cons_zero, List.setIfInBounds_toArray, List.set_cons_succ, List.set_cons_zero]
        refine wpAnyH_take (i := 5) (v := ?_) rfl (by kernel_rfl) (by kernel_rfl) (by kernel_rfl) (fun _ _ _ h => h) (Or.inl ⟨rfl, ?_⟩) hHeld ?_
        rotate_left
        · intro w' hS; obtain ⟨s0, s1, s2⟩ := hS; go_simp <;> with_reducible rfl
        simp only [Act.put, List.getElem_toArray, List.getElem_cons_succ, List.getElem_cons_zero, List.setIfInBounds_toArray, List.set_cons_succ, List.set_cons_zero]
        refine wpAnyH_ready (rs := [6]) (by kernel_rfl) (by simp) (AllReadyH.cons rfl (fun K hK => ?_) AllReadyH.nil)
        refine wp_store_row 77 (.tmp 4) (.tmp 12) rfl wzl.heap.size (cells8 (rowsFn bs)) rfl rfl 77 #[.bool false, .bool false, .bool false, .bool false, .bool false, .bool false, .bool false, .bool false] hro size_crowd8 rfl (by simp [cells8, Value.oneCell']) ?_
        have ho := only_setRow wzlar wzl.heap.size (cells8 (rowsFn bs))
        replace hro := whole_setRow (cells8 (rowsFn bs)) hro
        replace hcur := ho.whole hcur (by first | omega | exact whole_ne hcur (by assumption) (by decide))
        replace hld := ho.whole hld (by first | omega | exact whole_ne hld (by assumption) (by decide))
        replace ht := ho.below ht (by have := HLA.out; omega)
        generalize World.setRow wzlar wzl.heap.size (cells8 (rowsFn bs)) = wzlars at hro ht hcur hld ho ⊢
        clear ho
        refine hK.out _ _ (box3_of hcur) (fun hHeld => ?_)
        clear hK K
        try simp only [Act.put, List.getElem_toArray, List.getElem_cons_succ, List.getElem_cons_zero, List.setIfInBounds_toArray, List.set_cons_succ, List.set_cons_zero]
        refine wpAnyH_done (by kernel_rfl) ?_ _
        clear hHeld
        go_wp2_with fail
        go_meet
        exact ⟨gl, wzl.heap.size, rfl, rfl, hld, hro, hcur, ht⟩
    · go_simp
      have HLA := Lib.hid ht.size
      have hro := Whole.fresh w0 77 #[.bool false, .bool false, .bool false, .bool false, .bool false, .bool false, .bool false, .bool false]
      have hnehcur := hcur.lt
      replace hcur := hcur.alloc (.cells #[.bool false, .bool false, .bool false, .bool false, .bool false, .bool false, .bool false, .bool false] 77)
      replace ht := ht.alloc ht.size (.cells #[.bool false, .bool false, .bool false, .bool false, .bool false, .bool false, .bool false, .bool false] 77)
      have hnsz := World.size_alloc w0 (.cells #[.bool false, .bool false, .bool false, .bool false, .bool false, .bool false, .bool false, .bool false] 77)
      generalize World.alloc w0 (.cells #[.bool false, .bool false, .bool false, .bool false, .bool false, .bool false, .bool false, .bool false] 77) = wza at hcur ht hro hnsz ⊢
      refine hK.out _ _ (box3_of hcur) (fun hHeld => ?_)
      clear hK K
      try simp only [Act.put, List.getElem_toArray, List.getElem_cons_succ, List.getElem_cons_zero, List.setIfInBounds_toArray, List.set_cons_succ, List.set_cons_zero]
      refine wpAnyH_ready (rs := [1]) (by kernel_rfl) (by simp) (AllReadyH.cons rfl (fun K hK => ?_) AllReadyH.nil)
      go_simp
      refine (loader_any A n n B m d s _ hn7 (Nat.le_refl _) (by omega)).mono ?_
      rintro e wzal ⟨gl, rfl, hgl, hld, hb⟩
      have hgl0 := hgl
      replace hcur := hcur.below hb
      replace hro := hro.below hb
      replace ht := below_then ht hb ht.size
      clear hb hgl
      refine hK.out _ _ (box3_of hcur) (fun hHeld => ?_)
      clear hK K
      try simp only [Act.put, List.getElem_toArray, List.getElem_cons_succ, List.getElem_cons_zero, List.setIfInBounds_toArray, List.set_cons_succ, List.set_cons_zero]
      refine wpAnyH_ready (rs := [3]) (by kernel_rfl) (by simp) (AllReadyH.cons rfl (fun K hK => ?_) AllReadyH.nil)
      go_simp
      refine (rowersOf_any A n n B m d bs s _ (by exact hB.below ht) HY.out hm8).mono ?_
      rintro e wzalr ⟨rfl, hb⟩
      replace hcur := hcur.below hb
      replace hld := hld.below hb
      replace hro := hro.below hb
      replace ht := below_then ht hb ht.size
      clear hb
      refine hK.out _ _ (box3_of hcur) (fun hHeld => ?_)
      clear hK K
      try simp only [Act.put, List.getElem_toArray, List.getElem_cons_succ, List.getElem_cons_zero, List.setIfInBounds_toArray, List.set_cons_succ, List.set_cons_zero]
      refine wpAnyH_take (i := 5) (v := ?_) rfl (by kernel_rfl) (by kernel_rfl) (by kernel_rfl) (fun _ _ _ h => h) (Or.inl ⟨rfl, ?_⟩) hHeld ?_
      rotate_left
      · intro w' hS; obtain ⟨s0, s1, s2⟩ := hS; go_simp <;> with_reducible rfl
      simp only [Act.put, List.getElem_toArray, List.getElem_cons_succ, List.getElem_cons_zero, List.setIfInBounds_toArray, List.set_cons_succ, List.set_cons_zero]
      refine wpAnyH_ready (rs := [6]) (by kernel_rfl) (by simp) (AllReadyH.cons rfl (fun K hK => ?_) AllReadyH.nil)
      refine wp_store_row 77 (.tmp 4) (.tmp 12) rfl w0.heap.size (cells8 (rowsFn bs)) rfl rfl 77 #[.bool false, .bool false, .bool false, .bool false, .bool false, .bool false, .bool false, .bool false] hro size_crowd8 rfl (by simp [cells8, Value.oneCell']) ?_
      have ho := only_setRow wzalr w0.heap.size (cells8 (rowsFn bs))
      replace hro := whole_setRow (cells8 (rowsFn bs)) hro
      replace hcur := ho.whole hcur (by first | omega | exact whole_ne hcur (by assumption) (by decide))
      replace hld := ho.whole hld (by first | omega | exact whole_ne hld (by assumption) (by decide))
      replace ht := ho.below ht (by have := HLA.out; omega)
      generalize World.setRow wzalr w0.heap.size (cells8 (rowsFn bs)) = wzalrs at hro ht hcur hld ho ⊢
      clear ho
      refine hK.out _ _ (box3_of hcur) (fun hHeld => ?_)
      clear hK K
      try simp only [Act.put, List.getElem_toArray, List.getElem_cons_succ, List.getElem_cons_zero, List.setIfInBounds_toArray, List.set_cons_succ, List.set_cons_zero]
      refine wpAnyH_done (by kernel_rfl) ?_ _
      clear hHeld
      go_wp2_with fail
      go_meet
      exact ⟨gl, w0.heap.size, rfl, rfl, hld, hro, hcur, ht⟩
  obtain ⟨w1, rfl⟩ : ∃ W : World, W = wc := ⟨_, rfl⟩
  obtain ⟨gl, h, rfl, rfl, hld, hro, hcu, hbc⟩ := hcut
  clear hcur ht
  unfold loadFn
  obtain ⟨c0, c1, c2⟩ := hcu.cells3
  have hlw := hcu.lt
  go_wp2_with fail
  refine (crowdsUpTo_any n n w1 (by omega) (by omega)).mono ?_
  rintro e w3 ⟨E, c, rfl, hown, hb⟩
  generalize hls : upLists n n = ls at HSM HUP HCL hown
  have HC1 := Lib.hid (hcu.below hb)
  have HL1 := Lib.hid (hld.below hb)
  have HR1 := Lib.hid (hro.below hb)
  have HT1 := Lib.hid (below_then hbc hb hbc.size)
  have HS0 := Lib.hid hown
  have HW03 : Hid (w.heap.size ≤ w3.heap.size) := HT1.out.size
  have hhl := (hro.below hb).lt
  have hgll := (hld.below hb).lt
  have hwl := (hcu.below hb).lt
  have hl := HSM.out
  clear hb hown hld hro hcu hbc c0 c1 c2 hls hlw
  go_wp2_with fail
  go_loopw [5, 21] (fun v i wr => ∃ (j : Nat) (T : Option Addr) (r : Nat), j ≤ ls.length ∧ i = .int .i64 j ∧ v = .slice T (legsIn xs bs s (ls.take j)).length r ∧ Whole wr w.heap.size 39 #[.slice A n n, .slice B m d, .int .i64 s] ∧ Whole wr gl 33 #[.slice A n n] ∧ Whole wr h 77 (cells8 (rowsFn bs)) ∧ wr.ownsRow w1.heap.size 77 8 (.slice E ls.length c) ls.length (crowdsOf ls) ∧ wr.ownsRow w3.heap.size 142 9 (.slice T (legsIn xs bs s (ls.take j)).length r) (legsIn xs bs s (ls.take j)).length (legsCells (loadOf xs) (legsIn xs bs s (ls.take j))) ∧ Below w.heap.size w wr ∧ w3.heap.size ≤ wr.heap.size) (fun _ i _ => ls.length - (intOf i).toNat)
  case atStart => exact ⟨0, none, 0, Nat.zero_le _, rfl, rfl, HC1.out, HL1.out, HR1.out, HS0.out, World.ownsRow_nil _ _ _ _, HT1.out, Nat.le_refl _⟩
  case round =>
    clear HC1 HL1 HR1 HT1
    obtain ⟨j, T, r, hj, rfl, rfl, hC, hL, hR, hS, hO, ht, hws⟩ := hrel
    have hgl := legs_len xs bs s (ls.take j)
    have htk : (ls.take j).length ≤ 255 := by rw [List.length_take]; omega
    by_cases hlt : j < ls.length
    · obtain ⟨gs, rfl, hgsl, a0, a1, a2, a3, a4, a5, a6, a7⟩ := crowds_row hS rfl hlt
      have hgs3 := (HS0.out.lt gs rfl).2
      have hd : decide ((j : Int) < (ls.length : Int)) = true := by simp; omega
      have hst := HUP.out _ (List.getElem_mem hlt)
      have HST := Lib.hid hst.1
      have HLN := Lib.hid hst.2
      have HNO := fun h => Lib.hid (legs_no (xs := xs) (bs := bs) (s := s) hlt h)
      have HYES := fun h => Lib.hid (legs_yes (xs := xs) (bs := bs) (s := s) hlt h)
      have HASH := Lib.hid (ashore (bs := bs) (l := ls[j]) (fun x hx => by have := mem_steps hst.1 hx; omega))
      have HIN : Hid (∀ y ∈ ls[j], 0 ≤ y ∧ y < n) := fun y hy => by have := mem_steps hst.1 hy; omega
      have hbd := loadOf_bound HW.out ls[j]
      have HBD := Lib.hid hbd
      clear hst hbd
      have HOB : Hid (∀ q, (Value.slice T (legsIn xs bs s (ls.take j)).length r).ownBlock = some q → w3.heap.size ≤ q ∧ q < wr.heap.size) := fun q hq => hO.lt q hq
      generalize legsIn xs bs s (ls.take j) = gr at hgl hO HNO HYES HOB ⊢
      generalize hlj : ls[j] = l at a0 a1 a2 a3 a4 a5 a6 a7 HST HLN HNO HYES HASH HIN HBD
      clear hlj
      have hC1 := hC.alloc (.cells (cells8 (has l)) 77)
      have hL1 := hL.alloc (.cells (cells8 (has l)) 77)
      have hR1 := hR.alloc (.cells (cells8 (has l)) 77)
      have hS1 := hS.alloc (.cells (cells8 (has l)) 77)
      have hO1 := hO.alloc (.cells (cells8 (has l)) 77)
      have ht1 := ht.alloc ht.size (.cells (cells8 (has l)) 77)
      have hx1 := Whole.fresh wr 77 (cells8 (has l))
      have hw1 := World.size_alloc wr (.cells (cells8 (has l)) 77)
      clear hC hL hR hS hO ht
      unfold cells8 at hC1 hL1 hR1 hS1 hO1 ht1 hx1 hw1
      have hfd : ∀ W, (Instr.field 77 (.agg #[.bool (has l 0 && !rowsFn bs 0), .bool (has l 1 && !rowsFn bs 1), .bool (has l 2 && !rowsFn bs 2), .bool (has l 3 && !rowsFn bs 3), .bool (has l 4 && !rowsFn bs 4), .bool (has l 5 && !rowsFn bs 5), .bool (has l 6 && !rowsFn bs 6), .bool (has l 7 && !rowsFn bs 7)]) 0).run Try.prog W = .ok (.agg #[.bool (has l 0 && !rowsFn bs 0), .bool (has l 1 && !rowsFn bs 1), .bool (has l 2 && !rowsFn bs 2), .bool (has l 3 && !rowsFn bs 3), .bool (has l 4 && !rowsFn bs 4), .bool (has l 5 && !rowsFn bs 5), .bool (has l 6 && !rowsFn bs 6), .bool (has l 7 && !rowsFn bs 7)]) W := fun _ => by kernel_rfl
      go_wp2_with fail
      refine wp_region_held_drew (S := (fun w' => Row8 wr.heap.size (has l) w' ∧ Row8 h (rowsFn bs) w')) (by kernel_rfl) ⟨row8_cells hx1.drew, row8_cells hR1.drew⟩ (fun hHeld => ?_)
      replace hC1 := hC1.drew
      replace hL1 := hL1.drew
      replace hR1 := hR1.drew
      replace hx1 := hx1.drew
      replace hS1 := hS1.drew
      replace hO1 := hO1.drew
      replace ht1 := ht1.drew
      replace hw1 : (World.drew (World.alloc wr (.cells #[.bool (has l 0), .bool (has l 1), .bool (has l 2), .bool (has l 3), .bool (has l 4), .bool (has l 5), .bool (has l 6), .bool (has l 7)] 77))).heap.size = wr.heap.size + 1 := hw1
      generalize World.drew (World.alloc wr (.cells #[.bool (has l 0), .bool (has l 1), .bool (has l 2), .bool (has l 3), .bool (has l 4), .bool (has l 5), .bool (has l 6), .bool (has l 7)] 77)) = wd at hC1 hL1 hR1 hx1 hS1 hO1 ht1 hw1 hHeld ⊢
      refine wpAnyH_take (i := 0) (v := ?_) rfl (by kernel_rfl) (by kernel_rfl) (by kernel_rfl) (fun _ _ _ h => h) (Or.inl ⟨rfl, ?_⟩) hHeld ?_
      rotate_left
      · intro w' hS; obtain ⟨⟨s0, s1, s2, s3, s4, s5, s6, s7⟩, ⟨q0, q1, q2, q3, q4, q5, q6, q7⟩⟩ := hS; go_simp <;> with_reducible rfl
      simp only [Act.put, List.getElem_toArray, List.getElem_cons_succ, List.getElem_cons_zero, List.setIfInBounds_toArray, List.set_cons_succ, List.set_cons_zero]
      refine wpAnyH_take (i := 1) (v := ?_) rfl (by kernel_rfl) (by kernel_rfl) (by kernel_rfl) (fun _ _ _ h => h) (Or.inl ⟨rfl, ?_⟩) hHeld ?_
      rotate_left
      · intro w' hS; obtain ⟨⟨s0, s1, s2, s3, s4, s5, s6, s7⟩, ⟨q0, q1, q2, q3, q4, q5, q6, q7⟩⟩ := hS; go_simp <;> with_reducible rfl
      simp only [Act.put, List.getElem_toArray, List.getElem_cons_succ, List.getElem_cons_zero, List.setIfInBounds_toArray, List.set_cons_succ, List.set_cons_zero]
      refine wpAnyH_take (i := 4) (v := ?_) rfl (by kernel_rfl) (by kernel_rfl) (by kernel_rfl) (fun _ _ _ h => h) (Or.inl ⟨rfl, ?_⟩) hHeld ?_
      rotate_left
      · intro w' hS; obtain ⟨⟨s0, s1, s2, s3, s4, s5, s6, s7⟩, ⟨q0, q1, q2, q3, q4, q5, q6, q7⟩⟩ := hS; go_simp <;> with_reducible rfl
      simp only [Act.put, List.getElem_toArray, List.getElem_cons_succ, List.getElem_cons_zero, List.setIfInBounds_toArray, List.set_cons_succ, List.set_cons_zero]
      refine wpAnyH_take (i := 5) (v := ?_) rfl (by kernel_rfl) (by kernel_rfl) (by kernel_rfl) (fun _ _ _ h => h) (Or.inl ⟨rfl, ?_⟩) hHeld ?_
      rotate_left
      · intro w' hS; obtain ⟨⟨s0, s1, s2, s3, s4, s5, s6, s7⟩, ⟨q0, q1, q2, q3, q4, q5, q6, q7⟩⟩ := hS; go_simp <;> with_reducible rfl
      simp only [Act.put, List.getElem_toArray, List.getElem_cons_succ, List.getElem_cons_zero, List.setIfInBounds_toArray, List.set_cons_succ, List.set_cons_zero]
      refine wpAnyH_ready (rs := [2]) (by kernel_rfl) (by simp) (AllReadyH.cons rfl (fun K hK => ?_) AllReadyH.nil)
      go_simp
      have hwo := without_any (has l) (rowsFn bs) wd
      unfold cells8 at hwo
      refine hwo.mono ?_
      clear hwo
      rintro e w5 ⟨rfl, hb⟩
      replace hC1 := hC1.below hb
      replace hL1 := hL1.below hb
      replace hR1 := hR1.below hb
      replace hx1 := hx1.below hb
      replace hS1 := ownsRow_below hS1 hb
      replace hO1 := ownsRow_below hO1 hb
      have hz5 := hb.size
      replace ht1 := below_then ht1 hb ht1.size
      clear hb
      refine hK.out _ _ ⟨row8_cells hx1, row8_cells hR1⟩ (fun hHeld => ?_)
      clear hK K
      try simp only [Act.put, List.getElem_toArray, List.getElem_cons_succ, List.getElem_cons_zero, List.setIfInBounds_toArray, List.set_cons_succ, List.set_cons_zero]
      refine wpAnyH_take (i := 3) (v := ?_) rfl (by kernel_rfl) (by kernel_rfl) (by kernel_rfl) (fun _ _ _ h => h) (Or.inl ⟨rfl, ?_⟩) hHeld ?_
      rotate_left
      · intro w' hS; obtain ⟨⟨s0, s1, s2, s3, s4, s5, s6, s7⟩, ⟨q0, q1, q2, q3, q4, q5, q6, q7⟩⟩ := hS; go_simp <;> with_reducible rfl
      simp only [Act.put, List.getElem_toArray, List.getElem_cons_succ, List.getElem_cons_zero, List.setIfInBounds_toArray, List.set_cons_succ, List.set_cons_zero]
      refine wpAnyH_take (i := 6) (v := ?_) rfl (by kernel_rfl) (by kernel_rfl) (by kernel_rfl) (fun _ _ _ h => h) (Or.inl ⟨rfl, ?_⟩) hHeld ?_
      rotate_left
      · intro w' hS; obtain ⟨⟨s0, s1, s2, s3, s4, s5, s6, s7⟩, ⟨q0, q1, q2, q3, q4, q5, q6, q7⟩⟩ := hS; go_simp <;> with_reducible rfl
      simp only [Act.put, List.getElem_toArray, List.getElem_cons_succ, List.getElem_cons_zero, List.setIfInBounds_toArray, List.set_cons_succ, List.set_cons_zero]
      refine wpAnyH_done (by kernel_rfl) ?_ _
      clear hHeld
      cases hcr : canRow bs l
      · have HN := HNO (by rw [legOk, hcr]; rfl)
        rw [HASH.out, hcr]
        clear HNO HYES hcr a0 a1 a2 a3 a4 a5 a6 a7
        have HP := Lib.hid (show _ ∧ _ ∧ _ ∧ _ ∧ _ ∧ _ from ⟨hC1, hL1, hR1, hS1, hO1, ht1⟩)
        clear hC1 hL1 hR1 hS1 hO1 ht1 hx1
        go_wp2
        go_roundw
        case rel => exact ⟨j + 1, T, r, by omega, by go_num, by rw [HN.out], HP.out.1, HP.out.2.1, HP.out.2.2.1, HP.out.2.2.2.1, by rw [HN.out]; exact HP.out.2.2.2.2.1, HP.out.2.2.2.2.2, by omega⟩
        case measure => simp [intOf]; omega
      · rw [HASH.out, hcr]
        clear a0 a1 a2 a3 a4 a5 a6 a7
        have HCR := Lib.hid hcr
        clear hcr
        have hx1' : Whole w5 wr.heap.size 77 (cells8 (has l)) := hx1
        obtain ⟨x0, x1, x2, x3, x4, x5, x6, x7⟩ := cells8_cells hx1'
        have hxl := hx1.lt
        go_wp2_with fail
        have hli := list_any l ((n : Int) - 1) w5 HST.out (by omega)
        unfold crowdCells at hli
        refine hli.mono ?_
        clear hli
        rintro e w6 ⟨D, c2, rfl, hD, hb⟩
        have hD6 := (Fresh.of_own' hD).holds
        replace hC1 := hC1.below hb
        replace hL1 := hL1.below hb
        replace hR1 := hR1.below hb
        replace hx1' := hx1'.below hb
        replace hS1 := ownsRow_below hS1 hb
        replace hO1 := ownsRow_below hO1 hb
        have hz6 := hb.size
        replace ht1 := below_then ht1 hb ht1.size
        clear hb x0 x1 x2 x3 x4 x5 x6 x7 hD hxl hx1
        go_wp2_with fail
        refine (loadFn_any A n n gl xs D l.length c2 l w6 hL1 (by exact hA.below ht1) hD6 HX.out rfl hn7 (by have := HLN.out.2; omega) HW.out HIN.out (by have := HLN.out.2; omega)).mono ?_
        rintro e w7 ⟨rfl, hb⟩
        replace hC1 := hC1.below hb
        replace hL1 := hL1.below hb
        replace hR1 := hR1.below hb
        replace hx1' := hx1'.below hb
        replace hS1 := ownsRow_below hS1 hb
        replace hO1 := ownsRow_below hO1 hb
        have hz7 := hb.size
        replace ht1 := below_then ht1 hb ht1.size
        clear hb hD6
        obtain ⟨c0, c1, c3⟩ := hC1.cells3
        obtain ⟨x0, x1, x2, x3, x4, x5, x6, x7⟩ := cells8_cells hx1'
        have hxl := hx1'.lt
        have hcl := hC1.lt
        have HBD1 := HBD.out.1
        have HBD2 := HBD.out.2
        have HLN2 := HLN.out.2
        obtain ⟨Wt, hWt⟩ : ∃ Wt, Wt = loadOf xs l := ⟨_, rfl⟩
        rw [← hWt] at HBD1 HBD2 ⊢
        have HWT := Lib.hid hWt
        by_cases hle : Wt ≤ s
        · have hd8 : decide (Wt ≤ s) = true := by simpa using hle
          have HN := HYES (by rw [legOk, HCR.out, ← hWt, hd8]; rfl)
          have K1 := Lib.hid (hC1.alloc (.cells (legCells (loadOf xs) l) 142))
          have K2 := Lib.hid (hL1.alloc (.cells (legCells (loadOf xs) l) 142))
          have K3 := Lib.hid (hR1.alloc (.cells (legCells (loadOf xs) l) 142))
          have K4 := Lib.hid (hS1.alloc (.cells (legCells (loadOf xs) l) 142))
          have K5 := Lib.hid (hO1.alloc (.cells (legCells (loadOf xs) l) 142))
          have K6 := Lib.hid (ht1.alloc ht1.size (.cells (legCells (loadOf xs) l) 142))
          have HNEW := Lib.hid (cells_new w7 142 (legCells (loadOf xs) l))
          have HONE := Lib.hid (leg_ones (loadOf xs) l)
          have HMAX := Lib.hid (show gr.length + 1 ≤ maxLen by unfold maxLen; omega)
          have HBYT := Lib.hid (show (gr.length + 1) * 16 ≤ 140737488355328 by omega)
          have HBASE := Lib.hid (show w3.heap.size ≤ (w7.alloc (.cells (legCells (loadOf xs) l) 142)).heap.size by simp; omega)
          have HLEN := Lib.hid (show (gr ++ [l]).length = gr.length + 1 by simp)
          have HCL1 := Lib.hid (show w.heap.size < w3.heap.size by omega)
          have HGL1 := Lib.hid (show gl < w3.heap.size by omega)
          have HHL1 := Lib.hid (show h < w3.heap.size by omega)
          clear HNO HYES hC1 hL1 hR1 hS1 hO1 ht1
          unfold legCells at HNEW HONE HBASE K1 K2 K3 K4 K5 K6
          rw [← hWt] at HNEW HONE HBASE K1 K2 K3 K4 K5 K6
          clear hWt hle
          go_wp2_with (at_builtin; refine wpList_append_own _ rfl (.tmp 40) (.tmp 44) 139 rfl w3.heap.size 142 i0 (.agg #[.bool false, .bool false, .bool false, .bool false, .bool false, .bool false, .bool false, .bool false, .int .i64 0]) 9 16 Try.underlying139 HI.out HZ0.out HZ1.out HZ2.out rfl (by decide) (.slice T gr.length r) gr.length (legsCells (loadOf xs) gr) rfl K5.out ⟨w7.heap.size, 0, none⟩ 1 1 [.bool (has l 0), .bool (has l 1), .bool (has l 2), .bool (has l 3), .bool (has l 4), .bool (has l 5), .bool (has l 6), .bool (has l 7), .int .i64 Wt] rfl rfl HNEW.out HONE.out HMAX.out HBYT.out HBASE.out ?_; intro v' w8 hown1 hg1 _; obtain ⟨g2, e2, hv2⟩ := own_form hown1; subst hv2; have hrr : ∀ x, (Value.slice T gr.length r).ownBlock = some x → w3.heap.size ≤ x := fun x hx => (K5.out.lt x hx).1; have L1 := Lib.hid (whole_grown K1.out hg1 hrr HCL1.out); have L2 := Lib.hid (whole_grown K2.out hg1 hrr HGL1.out); have L3 := Lib.hid (whole_grown K3.out hg1 hrr HHL1.out); have L4 := Lib.hid (K4.out.kept hg1 (.inr (fun e => by have := hrr gs (e ▸ rfl); omega))); have L6 := Lib.hid (K6.out.grown hg1 (by have := K6.out.size; omega) (fun x hx => by have := hrr x hx; omega)))
          have hs8 := hg1.size
          have L5 := Lib.hid hown1
          have hs9 : w3.heap.size ≤ w8.heap.size := by simp at hs8; omega
          clear hown1 hg1 hs8 hrr
          go_roundw
          case rel => exact ⟨j + 1, some ⟨g2, 0, none⟩, e2, by omega, by go_num, by rw [HN.out, HLEN.out], L1.out, L2.out, L3.out, L4.out, by rw [HN.out, HLEN.out, legsCells_snoc, legCells, ← HWT.out]; exact L5.out, L6.out, hs9⟩
          case measure => simp [intOf]; omega
        · have hd8 : decide (Wt ≤ s) = false := by simpa using hle
          have HN := HNO (by rw [legOk, HCR.out, ← hWt, hd8]; rfl)
          have HP := Lib.hid (show _ ∧ _ ∧ _ ∧ _ ∧ _ ∧ _ from ⟨hC1, hL1, hR1, hS1, hO1, ht1⟩)
          clear HNO HYES hC1 hL1 hR1 hS1 hO1 ht1 hWt hle
          go_wp2
          go_roundw
          case rel => exact ⟨j + 1, T, r, by omega, by go_num, by rw [HN.out], HP.out.1, HP.out.2.1, HP.out.2.2.1, HP.out.2.2.2.1, by rw [HN.out]; exact HP.out.2.2.2.2.1, HP.out.2.2.2.2.2, by omega⟩
          case measure => simp [intOf]; omega
    · obtain rfl : j = ls.length := by omega
      have hd : decide ((ls.length : Int) < (ls.length : Int)) = false := by simp
      rw [List.take_length] at hO hgl ⊢
      have HO := Lib.hid (hO)
      have HT := Lib.hid ht
      clear hC hL hR hS hO ht
      go_wp2
      go_ret
      refine ⟨T, r, ?_, ?_, HT.out⟩
      · rw [HCL.out]; rfl
      · rw [HCL.out]; exact own_lower HO.out HW03.out
end Go.Proofs.Ytoedcieofjcgkaa

namespace Go.Proofs.Ytoedcieofjcgkaa
open Go.RowKit

/-- The closure that tells a crew's rides. -/
def ridesFnV (gL : Nat) : Value := .func (.func 120) #[] #[.pointer (some ⟨gL, 0, none⟩)]
/-- The cells of a crew's river. -/
def crewCells (p gL : Nat) : Array Value := #[.bool false, .bool false, .bool false, .bool false, .bool false, .bool false, .bool false, .bool false, .bool false, .bool (firstN p 0), .bool (firstN p 1), .bool (firstN p 2), .bool (firstN p 3), .bool (firstN p 4), .bool (firstN p 5), .bool (firstN p 6), .bool (firstN p 7), .bool true, ridesFnV gL]
theorem crew_one (p gL : Nat) : (crewCells p gL).all (·.oneCell') = true := by simp [crewCells, ridesFnV, Value.oneCell']
theorem crew_ret {w : World} {tmps : Array Value} {g p gL : Nat} (h2 : tmps.getD 2 undef = .pointer (some ⟨g, 0, none⟩)) (hw : Whole w g 82 (crewCells p gL)) :
    (results Try.f74 tmps).run Try.prog w = .ok (.agg (crewCells p gL)) w := by
  have hl := run_loadVar_row (P := Try.prog) w g 82 82 (crewCells p gL) (0, 0) _ hw Try.underlying82 rfl size_river
  have h2' : tmps[2]?.getD undef = .pointer (some ⟨g, 0, none⟩) := by simpa using h2
  simp [results, Try.results74, h2', asAddr, hl]
/-- What the closure keeps. -/
structure RidesFn (w : World) (T : List Int → Int) (gL g : Nat) (E : Option Addr) (c : Nat) (ls : List (List Int)) : Prop where
  gr : Whole w gL 139 #[.slice E ls.length c]
  own : w.ownsRow g 142 9 (.slice E ls.length c) ls.length (legsCells T ls)
theorem RidesFn.below {w w' : World} {T : List Int → Int} {gL g : Nat} {E : Option Addr} {c : Nat} {ls : List (List Int)} (h : RidesFn w T gL g E c ls) (hb : Below w.heap.size w w') : RidesFn w' T gL g E c ls := ⟨h.gr.below hb, ownsRow_below h.own hb⟩
theorem RidesFn.alloc {w : World} {T : List Int → Int} {gL g : Nat} {E : Option Addr} {c : Nat} {ls : List (List Int)} (h : RidesFn w T gL g E c ls) (o : Obj) : RidesFn (w.alloc o) T gL g E c ls := h.below (below1 w o)
theorem RidesFn.drew {w : World} {T : List Int → Int} {gL g : Nat} {E : Option Addr} {c : Nat} {ls : List (List Int)} (h : RidesFn w T gL g E c ls) : RidesFn w.drew T gL g E c ls := ⟨h.gr.drew, h.own⟩
def CrewPost (T : List Int → Int) (n : Nat) (ls : List (List Int)) (w : World) (e : Ending) (w' : World) : Prop :=
  ∃ (gL g : Nat) (E : Option Addr) (c : Nat), e = .returned (.agg (crewCells n gL)) ∧ RidesFn w' T gL g E c ls ∧ Below w.heap.size w w'

set_option maxHeartbeats 12800000 in
set_option maxRecDepth 100000 in
set_option linter.unusedSimpArgs false in
set_option linter.unusedVariables false in
theorem crewRiver_any (A : Option Addr) (n : Nat) (B : Option Addr) (m d : Nat) (xs : List Int) (bs : List Bool) (s : Int) (w : World) (hA : Holds w A (nums xs)) (hB : Holds w B (bits bs)) (hx : xs.length = n) (hy : bs.length = m) (h1 : 1 ≤ n) (hn7 : n ≤ 7) (hm8 : m ≤ 8) (hw : ∀ y ∈ xs, 1 ≤ y ∧ y ≤ 500) :
    Calls Try.prog 74 #[.agg #[.slice A n n, .slice B m d, .int .i64 s]] w (CrewPost (loadOf xs) n (crewLists xs bs s) w) := by
  have HX := Lib.hid hx
  have HY := Lib.hid hy
  have HW := Lib.hid hw
  clear hx hy hw
  obtain ⟨ls, hls⟩ : ∃ ls, ls = crewLists xs bs s := ⟨_, rfl⟩
  rw [← hls]
  have HLS := Lib.hid hls
  clear hls
  have hmf : ∀ (fn : Fn) (first cap : Array Value) (w : World), (Instr.makeFunc fn first cap).run Try.prog w = .ok (.func fn first cap) w := fun _ _ _ _ => rfl
  have HPT := Lib.hid (place_trues n true)
  have hcur := (Whole.fresh w 39 #[.slice A n n, .slice B m d, .int .i64 s]).alloc (.cells riverZero 82)
  have hrz := Whole.fresh (w.alloc (.cells #[.slice A n n, .slice B m d, .int .i64 s] 39)) 82 riverZero
  rw [World.size_alloc] at hrz
  have ht := below2 w (.cells #[.slice A n n, .slice B m d, .int .i64 s] 39) (.cells riverZero 82)
  unfold riverZero at hcur hrz ht
  go_enter Try.func74, Try.ntmps74
  go_upto_region 1 with fail
  generalize World.alloc (World.alloc w (.cells #[.slice A n n, .slice B m d, .int .i64 s] 39)) (.cells #[.bool false, .bool false, .bool false, .bool false, .bool false, .bool false, .bool false, .bool false, .bool false, .bool false, .bool false, .bool false, .bool false, .bool false, .bool false, .bool false, .bool false, .bool false, Value.nilFunc] 82) = w0 at hcur hrz ht ⊢
  obtain ⟨c0, c1, c2⟩ := hcur.cells3
  have hlw := hcur.lt
  go_wp2_with fail
  have hcl := crewLegs_any A n B m d xs bs s w0 (by exact hA.below ht) (by exact hB.below ht) HX.out HY.out h1 hn7 hm8 HW.out
  rw [← HLS.out] at hcl
  refine hcl.mono ?_
  clear hcl
  rintro e w1 ⟨E, c, rfl, hown, hb⟩
  replace hcur := hcur.below hb
  replace hrz := hrz.below hb
  replace ht := below_then ht hb ht.size
  clear hb c0 c1 c2 hlw
  have hG := Whole.fresh w1 139 #[.slice E ls.length c]
  replace hcur := hcur.alloc (.cells #[.slice E ls.length c] 139)
  replace hrz := hrz.alloc (.cells #[.slice E ls.length c] 139)
  replace hown := hown.alloc (.cells #[.slice E ls.length c] 139)
  have HT1 := Lib.hid ht.size
  replace ht := ht.alloc ht.size (.cells #[.slice E ls.length c] 139)
  obtain ⟨c0, c1, c2⟩ := hcur.cells3
  have hlw := hcur.lt
  have HC := Lib.hid hcur
  have HZ := Lib.hid hrz
  have HO := Lib.hid hown
  have HT := Lib.hid ht
  have HG := Lib.hid hG
  have HGS := Lib.hid (show w.heap.size ≤ w1.heap.size from HT1.out)
  clear hcur hrz hown ht hG
  go_wp2_with fail
  refine (everybodyOver_any n _ (by omega)).mono ?_
  rintro e w5 ⟨rfl, hb⟩
  rw [HPT.out]
  have N1 := Lib.hid (show RidesFn w5 (loadOf xs) w1.heap.size w0.heap.size E c ls from ⟨HG.out.below hb, ownsRow_below HO.out hb⟩)
  have N2 := Lib.hid (HZ.out.below hb)
  have N4 := Lib.hid (below_then HT.out hb HT.out.size)
  clear hb c0 c1 c2
  unfold place9
  go_wp2_with (refine wpList_store_whole rfl 82 (.tmp 2) (.tmp 14) rfl (w.heap.size + 1) (crewCells n w1.heap.size) rfl rfl 82 riverZero N2.out size_river rfl (crew_one _ _) ?_; intro w7 hw7 ho7)
  refine bodyPost_ret (v := .agg (crewCells n w1.heap.size)) (crew_ret rfl hw7) rfl ?_
  exact ⟨w1.heap.size, w0.heap.size, E, c, rfl, ⟨ho7.whole N1.out.gr (whole_ne N1.out.gr N2.out (by decide)), own_only N1.out.own ho7 N2.out (by decide)⟩, ho7.below N4.out (by omega)⟩
end Go.Proofs.Ytoedcieofjcgkaa

namespace Go.Proofs.Ytoedcieofjcgkaa
open Go.RowKit

/-- The rides in a place, of some lists. -/
def ridesAt (bs : List Bool) (t : Bool) (ls : List (List Int)) : List (List Int) := ls.filter (fun l => allAt bs t l)
theorem rides_no {j : Nat} {bs : List Bool} {t : Bool} {ls : List (List Int)} (hj : j < ls.length) (h : allAt bs t ls[j] = false) : ridesAt bs t (ls.take (j + 1)) = ridesAt bs t (ls.take j) := by
  rw [List.take_succ_eq_append_getElem hj, ridesAt, List.filter_append, ridesAt]; simp [h]
theorem rides_yes {j : Nat} {bs : List Bool} {t : Bool} {ls : List (List Int)} (hj : j < ls.length) (h : allAt bs t ls[j] = true) : ridesAt bs t (ls.take (j + 1)) = ridesAt bs t (ls.take j) ++ [ls[j]] := by
  rw [List.take_succ_eq_append_getElem hj, ridesAt, List.filter_append, ridesAt]; simp [h]
theorem rides_len (bs : List Bool) (t : Bool) (ls : List (List Int)) : (ridesAt bs t ls).length ≤ ls.length := List.length_filter_le _ _
/-- What the closure's appending reads. -/
def MdS (g : Nat) (f : Nat → Bool) (h : Nat) (f' : Nat → Bool) (t : Bool) (w : World) : Prop := Row8 g f w ∧ Row8 h f' w ∧ w.cell? ⟨h, 8, none⟩ = some (.bool t)
theorem row8_leg {w : World} {g : Nat} {ty : TypeId} {T : List Int → Int} {l : List Int} (h : Whole w g ty (legCells T l)) : Row8 g (has l) w := ⟨h.cell 0, h.cell 1, h.cell 2, h.cell 3, h.cell 4, h.cell 5, h.cell 6, h.cell 7⟩
theorem md_of {w : World} {g h : Nat} {T : List Int → Int} {l : List Int} {f' : Nat → Bool} {t : Bool} {y z : TypeId} (h1 : Whole w g y (legCells T l)) (h2 : Whole w h z (place9 f' t)) : MdS g (has l) h f' t w := ⟨row8_leg h1, row8_of h2, h2.cell 8⟩
theorem fresh_up {w' : World} {lo hi : Nat} {ty : TypeId} {A : Option Addr} {xs : List Value} (h : Fresh w' lo hi ty A xs) (hh : hi ≤ w'.heap.size) : Fresh w' lo w'.heap.size ty A xs := h.more (Nat.le_refl _) hh
theorem legs_row {w : World} {lo c : Nat} {A : Option Addr} {T : List Int → Int} {ls : List (List Int)} (h : w.ownsRow lo 142 9 (.slice A ls.length c) ls.length (legsCells T ls)) {i : Nat} (hi : i < ls.length) :
    ∃ g, A = some ⟨g, 0, none⟩ ∧ g < w.heap.size ∧ w.cell? ⟨g, i * 9, none⟩ = some (.bool (has ls[i] 0)) ∧ w.cell? ⟨g, i * 9 + 1, none⟩ = some (.bool (has ls[i] 1)) ∧ w.cell? ⟨g, i * 9 + 2, none⟩ = some (.bool (has ls[i] 2)) ∧ w.cell? ⟨g, i * 9 + 3, none⟩ = some (.bool (has ls[i] 3)) ∧ w.cell? ⟨g, i * 9 + 4, none⟩ = some (.bool (has ls[i] 4)) ∧ w.cell? ⟨g, i * 9 + 5, none⟩ = some (.bool (has ls[i] 5)) ∧ w.cell? ⟨g, i * 9 + 6, none⟩ = some (.bool (has ls[i] 6)) ∧ w.cell? ⟨g, i * 9 + 7, none⟩ = some (.bool (has ls[i] 7)) ∧ w.cell? ⟨g, i * 9 + 8, none⟩ = some (.int .i64 (T ls[i])) := by
  have hx := h
  obtain ⟨-, ⟨-, h0⟩ | ⟨g, cap, cur, hv, -, hh, -⟩⟩ := hx
  · omega
  · obtain ⟨rfl, rfl⟩ : A = some ⟨g, 0, none⟩ ∧ c = cap := by simpa using hv
    have hg : g < w.heap.size := (Array.getElem?_eq_some_iff.1 hh).1
    have hc : ∀ j, j < 9 → w.cell? ⟨g, i * 9 + j, none⟩ = (legCells T ls[i])[j]? := fun j hj => (h.cellAt (i * 9 + j) (by omega)).trans (legsCells_get T ls i j hi hj)
    exact ⟨g, rfl, hg, hc 0 (by omega), hc 1 (by omega), hc 2 (by omega), hc 3 (by omega), hc 4 (by omega), hc 5 (by omega), hc 6 (by omega), hc 7 (by omega), hc 8 (by omega)⟩

set_option maxHeartbeats 12800000 in
set_option maxRecDepth 100000 in
set_option linter.unusedSimpArgs false in
set_option linter.unusedVariables false in
theorem ridesFn_any (T : List Int → Int) (p gL g : Nat) (E0 : Option Addr) (c : Nat) (ls : List (List Int)) (bs : List Bool) (t : Bool) (w : World) (hp : p ≤ 8) (hbs : bs.length = p) (hls : ls.length ≤ 255) (hup : ∀ l ∈ ls, l ∈ upLists p p) (hF : RidesFn w T gL g E0 c ls) :
    Calls Try.prog 120 #[.agg (placeCells bs t), .pointer (some ⟨gL, 0, none⟩)] w (MovesPost bs t (ridesAt bs t ls) w) := by
  obtain ⟨i0, hi, hz0, hz1, hz2⟩ := info_parts info_move
  have HI := Lib.hid hi
  have HZ0 := Lib.hid hz0
  have HZ1 := Lib.hid hz1
  have HZ2 := Lib.hid hz2
  have HBS := Lib.hid hbs
  have HUP := Lib.hid hup
  obtain ⟨f, hf⟩ : ∃ f : Nat → Bool, f = fun i => bs.getD i false := ⟨_, rfl⟩
  have HPL : Hid (placeCells bs t = place9 f t) := by show _ = _; rw [place_nine9, hf]
  rw [HPL.out]
  have H3 := Lib.hid (Whole.fresh w 79 (place9 f t))
  have HB := Lib.hid (below1 w (.cells (place9 f t) 79))
  have HF := Lib.hid hF
  have hF1 := hF.alloc (.cells (place9 f t) 79)
  have e0 := hF1.gr.cells1
  clear hi hz0 hz1 hz2 hbs hF hF1 hf hup
  unfold place9 at e0
  unfold place9
  go_enter Try.func120, Try.ntmps120
  go_wp2
  go_loopw [4, 9] (fun v i wr => ∃ (j : Nat) (Q : Option Addr) (r : Nat) (rs : List RowV), j ≤ ls.length ∧ i = .int .i64 j ∧ v = .slice Q rs.length r ∧ rowNums rs = ridesAt bs t (ls.take j) ∧ Moves wr (w.heap.size + 1) Q r bs t rs ∧ Whole wr w.heap.size 79 (place9 f t) ∧ Below w.heap.size w wr) (fun _ i _ => ls.length - (intOf i).toNat)
  case atStart => exact ⟨0, none, 0, [], Nat.zero_le _, rfl, rfl, rfl, Moves.nil _ _ _ _, H3.out, HB.out⟩
  case round =>
    clear H3 HB e0
    obtain ⟨j, Q, r, rs, hj, rfl, rfl, hrn, hM, h3, ht⟩ := hrel
    have HOL : Hid (∀ x, (Value.slice Q rs.length r).ownBlock = some x → w.heap.size + 1 ≤ x ∧ x < wr.heap.size) := fun x hx => hM.1.lt x hx
    have hrl : rs.length ≤ 255 := by have h1 := congrArg List.length hrn; have h2 := rides_len bs t (ls.take j); rw [rowNums_len] at h1; rw [List.length_take] at h2; omega
    by_cases hlt : j < ls.length
    · have hd : decide ((j : Int) < (ls.length : Int)) = true := by simp; omega
      have hFr := HF.out.below ht
      obtain ⟨gs, rfl, hgl, a0, a1, a2, a3, a4, a5, a6, a7, a8⟩ := legs_row hFr.own hlt
      have hst := up_steps (HUP.out _ (List.getElem_mem hlt))
      have hl8 : ls[j].length ≤ 8 := Nat.le_trans hst.2.2 hp
      have HST := Lib.hid hst.1
      have HOUT : Hid (∀ i, bs.length ≤ i → has ls[j] i = false) := fun i hi => has_out hst.1 (by have := HBS.out; omega)
      have HNO := fun h => Lib.hid (rides_no (bs := bs) (t := t) hlt h)
      have HYES := fun h => Lib.hid (rides_yes (bs := bs) (t := t) hlt h)
      have HRS := Lib.hid hrn
      have hwl := h3.lt
      have hw0 : w.heap.size + 1 ≤ wr.heap.size := hwl
      obtain ⟨p0, p1, p2, p3, p4, p5, p6, p7⟩ := row8_of h3
      have p8 : wr.cell? ⟨w.heap.size, 8, none⟩ = some (.bool t) := h3.cell 8
      obtain ⟨f', hf'⟩ : ∃ f' : Nat → Bool, f' = fun i => (flipped bs ls[j]).getD i false := ⟨_, rfl⟩
      have HPF : Hid (placeCells (flipped bs ls[j]) (!t) = place9 f' (!t)) := by show _ = _; rw [place_nine9, hf']
      have HMC : Hid (∀ E n c2, moveCells bs t ⟨E, n, c2, ls[j]⟩ = [.slice E n c2, .bool (f' 0), .bool (f' 1), .bool (f' 2), .bool (f' 3), .bool (f' 4), .bool (f' 5), .bool (f' 6), .bool (f' 7), .bool (!t)]) := fun E n c2 => by rw [moveCells_at, hf']; rfl
      have HLEN : Hid (∀ x : RowV, (rs ++ [x]).length = rs.length + 1) := fun x => by simp
      have hO1 := hM.1
      have HSPR := Lib.hid hM.2
      clear hrn hst hf' hFr
      cases ha : allAt bs t ls[j]
      · have HN := HNO ha
        have HA := Lib.hid ha
        have HM0 := Lib.hid hM
        have HT0 := Lib.hid ht
        have H30 := Lib.hid h3
        clear HNO HYES ha hM ht h3 hO1
        generalize ls[j] = l at a0 a1 a2 a3 a4 a5 a6 a7 a8 HPF HOUT HST HA HMC hl8
        go_wp2_with fail
        have hh := holds_any p bs l t (wr.alloc (.cells (legCells T l) 142)) HST.out hp
        rw [HPL.out, crowd8] at hh
        refine hh.mono ?_
        clear hh
        rintro e w5 ⟨rfl, hb⟩
        rw [HA.out]
        have hba := below_then (below1 wr (.cells (legCells T l) 142)) hb (by simp)
        have HM := Lib.hid (HM0.out.below hba)
        have ht := Lib.hid (below_then HT0.out hba HT0.out.size)
        have H3 := Lib.hid (H30.out.below hba)
        clear hb hba a0 a1 a2 a3 a4 a5 a6 a7 a8 p0 p1 p2 p3 p4 p5 p6 p7 p8 hwl hgl
        go_wp2
        go_roundw
        case rel => exact ⟨j + 1, Q, r, rs, by omega, by go_num, rfl, by rw [HN.out]; exact HRS.out, HM.out, H3.out, ht.out⟩
        case measure => simp [intOf]; omega
      · have HN := HYES ha
        have HA := Lib.hid ha
        have HRN : Hid (∀ E n c2, rowNums (rs ++ [⟨E, n, c2, ls[j]⟩]) = ridesAt bs t (ls.take (j + 1))) := fun E n c2 => by rw [HN.out, ← HRS.out]; simp [rowNums]
        clear HNO HYES ha HN hM
        generalize ls[j] = l at a0 a1 a2 a3 a4 a5 a6 a7 a8 HPF HOUT HST HA HMC hl8 HRN
        have hx1 := Whole.fresh wr 142 (legCells T l)
        have hp1 := h3.alloc (.cells (legCells T l) 142)
        have ht1 := ht.alloc ht.size (.cells (legCells T l) 142)
        replace hO1 := hO1.alloc (.cells (legCells T l) 142)
        go_wp2_with fail
        have hh := holds_any p bs l t (wr.alloc (.cells (legCells T l) 142)) HST.out hp
        rw [HPL.out, crowd8] at hh
        refine hh.mono ?_
        clear hh
        rintro e w5 ⟨rfl, hb⟩
        rw [HA.out]
        have hz5 : wr.heap.size + 1 ≤ w5.heap.size := by have := hb.size; simpa using this
        replace hx1 := hx1.below hb
        replace hp1 := hp1.below hb
        replace ht1 := below_then ht1 hb ht1.size
        replace hO1 := ownsRow_below hO1 hb
        have hba : Below wr.heap.size wr w5 := below_then (below1 wr (.cells (legCells T l) 142)) hb (by simp)
        replace HSPR := Lib.hid (HSPR.out.below hba)
        clear hb hba a0 a1 a2 a3 a4 a5 a6 a7 a8 p0 p1 p2 p3 p4 p5 p6 p7 p8 hwl hgl ht h3
        have HMAX := Lib.hid (show rs.length + 1 ≤ maxLen by unfold maxLen; omega)
        have HBYT := Lib.hid (show (rs.length + 1) * 40 ≤ 140737488355328 by omega)
        go_wp2_with fail
        refine wp_region_held_drew (S := (MdS wr.heap.size (has l) w.heap.size f t)) (by kernel_rfl) (md_of hx1.drew hp1.drew) (fun hHeld => ?_)
        replace hx1 := hx1.drew
        replace hp1 := hp1.drew
        replace ht1 := ht1.drew
        have hzd : (World.drew w5).heap.size = w5.heap.size := rfl
        replace hO1 : (World.drew w5).ownsRow (w.heap.size + 1) 95 10 (.slice Q rs.length r) rs.length (movesCells bs t rs) := hO1
        replace HSPR : Hid (Spread (World.drew w5) (w.heap.size + 1) Q rs) := Lib.hid (HSPR.out.below (Below.refl _ _).drew)
        generalize World.drew w5 = wd at hx1 hp1 ht1 hO1 HSPR hzd hHeld ⊢
        refine wpAnyH_take (i := 0) (v := ?_) rfl (by kernel_rfl) (by kernel_rfl) (by kernel_rfl) (fun _ _ _ h => h) (Or.inl ⟨rfl, ?_⟩) hHeld ?_
        rotate_left
        · intro w' hS; obtain ⟨⟨a0, a1, a2, a3, a4, a5, a6, a7⟩, ⟨b0, b1, b2, b3, b4, b5, b6, b7⟩, b8⟩ := hS; go_simp <;> with_reducible rfl
        simp only [Act.put, List.getElem_toArray, List.getElem_cons_succ, List.getElem_cons_zero, List.setIfInBounds_toArray, List.set_cons_succ, List.set_cons_zero]
        refine wpAnyH_take (i := 1) (v := ?_) rfl (by kernel_rfl) (by kernel_rfl) (by kernel_rfl) (fun _ _ _ h => h) (Or.inl ⟨rfl, ?_⟩) hHeld ?_
        rotate_left
        · intro w' hS; obtain ⟨⟨a0, a1, a2, a3, a4, a5, a6, a7⟩, ⟨b0, b1, b2, b3, b4, b5, b6, b7⟩, b8⟩ := hS; go_simp <;> with_reducible rfl
        simp only [Act.put, List.getElem_toArray, List.getElem_cons_succ, List.getElem_cons_zero, List.setIfInBounds_toArray, List.set_cons_succ, List.set_cons_zero]
        refine wpAnyH_take (i := 2) (v := ?_) rfl (by kernel_rfl) (by kernel_rfl) (by kernel_rfl) (fun _ _ _ h => h) (Or.inl ⟨rfl, ?_⟩) hHeld ?_
        rotate_left
        · intro w' hS; obtain ⟨⟨a0, a1, a2, a3, a4, a5, a6, a7⟩, ⟨b0, b1, b2, b3, b4, b5, b6, b7⟩, b8⟩ := hS; go_simp <;> with_reducible rfl
        simp only [Act.put, List.getElem_toArray, List.getElem_cons_succ, List.getElem_cons_zero, List.setIfInBounds_toArray, List.set_cons_succ, List.set_cons_zero]
        refine wpAnyH_take (i := 4) (v := ?_) rfl (by kernel_rfl) (by kernel_rfl) (by kernel_rfl) (fun _ _ _ h => h) (Or.inl ⟨rfl, ?_⟩) hHeld ?_
        rotate_left
        · intro w' hS; obtain ⟨⟨a0, a1, a2, a3, a4, a5, a6, a7⟩, ⟨b0, b1, b2, b3, b4, b5, b6, b7⟩, b8⟩ := hS; go_simp <;> with_reducible rfl
        simp only [Act.put, List.getElem_toArray, List.getElem_cons_succ, List.getElem_cons_zero, List.setIfInBounds_toArray, List.set_cons_succ, List.set_cons_zero]
        refine wpAnyH_take (i := 5) (v := ?_) rfl (by kernel_rfl) (by kernel_rfl) (by kernel_rfl) (fun _ _ _ h => h) (Or.inl ⟨rfl, ?_⟩) hHeld ?_
        rotate_left
        · intro w' hS; obtain ⟨⟨a0, a1, a2, a3, a4, a5, a6, a7⟩, ⟨b0, b1, b2, b3, b4, b5, b6, b7⟩, b8⟩ := hS; go_simp <;> with_reducible rfl
        simp only [Act.put, List.getElem_toArray, List.getElem_cons_succ, List.getElem_cons_zero, List.setIfInBounds_toArray, List.set_cons_succ, List.set_cons_zero]
        refine wpAnyH_take (i := 6) (v := ?_) rfl (by kernel_rfl) (by kernel_rfl) (by kernel_rfl) (fun _ _ _ h => h) (Or.inl ⟨rfl, ?_⟩) hHeld ?_
        rotate_left
        · intro w' hS; obtain ⟨⟨a0, a1, a2, a3, a4, a5, a6, a7⟩, ⟨b0, b1, b2, b3, b4, b5, b6, b7⟩, b8⟩ := hS; go_simp <;> with_reducible rfl
        simp only [Act.put, List.getElem_toArray, List.getElem_cons_succ, List.getElem_cons_zero, List.setIfInBounds_toArray, List.set_cons_succ, List.set_cons_zero]
        refine wpAnyH_ready (rs := [3]) (by kernel_rfl) (by simp) (AllReadyH.cons rfl (fun K hK => ?_) AllReadyH.nil)
        go_simp
        have hls := list_any l ((p : Int) - 1) wd HST.out (by omega)
        rw [crowd8] at hls
        refine hls.mono ?_
        clear hls
        rintro e w6 ⟨E, c2, rfl, hown, hb⟩
        have hz6 := hb.size
        have KB := Lib.hid hb
        have hE := Fresh.of_own' hown
        replace hp1 := hp1.below hb
        replace hx1 := hx1.below hb
        replace ht1 := below_then ht1 hb ht1.size
        replace hO1 := ownsRow_below hO1 hb
        clear hb hown
        refine hK.out _ _ (md_of hx1 hp1) (fun hHeld => ?_)
        clear hK K
        try simp only [Act.put, List.getElem_toArray, List.getElem_cons_succ, List.getElem_cons_zero, List.setIfInBounds_toArray, List.set_cons_succ, List.set_cons_zero]
        refine wpAnyH_ready (rs := [7]) (by kernel_rfl) (by simp) (AllReadyH.cons rfl (fun K hK => ?_) AllReadyH.nil)
        go_simp
        have hx := cross_any bs l t w6 HOUT.out
        rw [HPL.out, HPF.out, crowd8] at hx
        refine hx.mono ?_
        clear hx
        rintro e w7 ⟨rfl, hb⟩
        have hz7 := hb.size
        replace hp1 := hp1.below hb
        replace hx1 := hx1.below hb
        replace ht1 := below_then ht1 hb ht1.size
        replace hO1 := ownsRow_below hO1 hb
        have hE7 := hE.below hb
        have KB7 := Lib.hid (below_then KB.out hb KB.out.size)
        clear hb hE
        unfold place9
        refine hK.out _ _ (md_of hx1 hp1) (fun hHeld => ?_)
        clear hK K
        try simp only [Act.put, List.getElem_toArray, List.getElem_cons_succ, List.getElem_cons_zero, List.setIfInBounds_toArray, List.set_cons_succ, List.set_cons_zero]
        refine wpAnyH_take (i := 8) (v := ?_) rfl (by kernel_rfl) (by kernel_rfl) (by kernel_rfl) (fun _ _ _ h => h) (Or.inl ⟨rfl, ?_⟩) hHeld ?_
        rotate_left
        · intro w' hS; obtain ⟨⟨a0, a1, a2, a3, a4, a5, a6, a7⟩, ⟨b0, b1, b2, b3, b4, b5, b6, b7⟩, b8⟩ := hS; go_simp <;> with_reducible rfl
        simp only [Act.put, List.getElem_toArray, List.getElem_cons_succ, List.getElem_cons_zero, List.setIfInBounds_toArray, List.set_cons_succ, List.set_cons_zero]
        refine wpAnyH_ready (rs := [9]) (by kernel_rfl) (by simp) (AllReadyH.cons rfl (fun K hK => ?_) AllReadyH.nil)
        go_simp
        have hE8 := hE7.alloc (.cells #[.slice E l.length c2, .bool (f' 0), .bool (f' 1), .bool (f' 2), .bool (f' 3), .bool (f' 4), .bool (f' 5), .bool (f' 6), .bool (f' 7), .bool (!t)] 95)
        have HO6 := Lib.hid (hO1.alloc (.cells #[.slice E l.length c2, .bool (f' 0), .bool (f' 1), .bool (f' 2), .bool (f' 3), .bool (f' 4), .bool (f' 5), .bool (f' 6), .bool (f' 7), .bool (!t)] 95))
        have hx2 := hx1.alloc (.cells #[.slice E l.length c2, .bool (f' 0), .bool (f' 1), .bool (f' 2), .bool (f' 3), .bool (f' 4), .bool (f' 5), .bool (f' 6), .bool (f' 7), .bool (!t)] 95)
        have hp2 := hp1.alloc (.cells #[.slice E l.length c2, .bool (f' 0), .bool (f' 1), .bool (f' 2), .bool (f' 3), .bool (f' 4), .bool (f' 5), .bool (f' 6), .bool (f' 7), .bool (!t)] 95)
        have ht2 := ht1.alloc ht1.size (.cells #[.slice E l.length c2, .bool (f' 0), .bool (f' 1), .bool (f' 2), .bool (f' 3), .bool (f' 4), .bool (f' 5), .bool (f' 6), .bool (f' 7), .bool (!t)] 95)
        refine hK.out _ _ (md_of hx2 hp2) (fun hHeld => ?_)
        clear hK K
        try simp only [Act.put, List.getElem_toArray, List.getElem_cons_succ, List.getElem_cons_zero, List.setIfInBounds_toArray, List.set_cons_succ, List.set_cons_zero]
        refine wpAnyH_ready (rs := [10]) (by kernel_rfl) (by simp) (AllReadyH.cons rfl (fun K hK => ?_) AllReadyH.nil)
        have HNEW := Lib.hid (cells_new w7 95 #[.slice E l.length c2, .bool (f' 0), .bool (f' 1), .bool (f' 2), .bool (f' 3), .bool (f' 4), .bool (f' 5), .bool (f' 6), .bool (f' 7), .bool (!t)])
        have HBASE := Lib.hid (show w.heap.size + 1 ≤ (w7.alloc (.cells #[.slice E l.length c2, .bool (f' 0), .bool (f' 1), .bool (f' 2), .bool (f' 3), .bool (f' 4), .bool (f' 5), .bool (f' 6), .bool (f' 7), .bool (!t)] 95)).heap.size by simp; omega)
        refine step_append_lies _ rfl (.tmp 17) (.tmp 26) 92 rfl (w.heap.size + 1) 95 i0 (.agg #[.slice none 0 0, .bool false, .bool false, .bool false, .bool false, .bool false, .bool false, .bool false, .bool false, .bool false]) 10 40 Try.underlying92 HI.out HZ0.out HZ1.out HZ2.out rfl (by decide) (.slice Q rs.length r) rs.length (movesCells bs t rs) (by simp [Act.eval]) HO6.out ⟨w7.heap.size, 0, none⟩ 1 1 [.slice E l.length c2, .bool (f' 0), .bool (f' 1), .bool (f' 2), .bool (f' 3), .bool (f' 4), .bool (f' 5), .bool (f' 6), .bool (f' 7), .bool (!t)] (by simp [Act.eval]) rfl HNEW.out (by simp [Value.oneCell']) (by decide) HMAX.out HBYT.out HBASE.out (w7.heap.size + 1) (by simp) ?_
        intro g3 c3 w8 hown3 hg3 hat3 hlt3
        have hrr : ∀ x, (Value.slice Q rs.length r).ownBlock = some x → w.heap.size + 1 ≤ x ∧ x < wr.heap.size := HOL.out
        have q7 := whole_apart hx2 hg3 (fun e => absurd (hrr _ e.symm).2 (by omega))
        have q3 := whole_grown (lo := w.heap.size + 1) hp2 hg3 (fun x hx => (hrr x hx).1) (by omega)
        have hsp := Spread.push (r := ⟨E, l.length, c2, l⟩) HSPR.out (fun q hq => by obtain ⟨a, ha, hb⟩ := slice_own hq; exact ⟨a, ha, hb, by have := (hrr q hq).2; omega⟩) (by omega) (KB7.out) (fresh_up hE7 hz7) rfl (by show l.length ≤ _; omega) hg3 hat3
        have hbt := Below.grown ht2 hg3 (by have := ht1.size; simp; omega) (fun x hx => by have := (hrr x hx).1; omega)
        have P1 := Lib.hid hsp
        have P2 := Lib.hid hown3
        have P3 := Lib.hid q3
        have P4 := Lib.hid hbt
        clear hsp hown3 hg3 hat3 hlt3 hbt hrr
        refine hK.out _ _ (md_of q7 q3) (fun hHeld => ?_)
        clear hK K
        try simp only [Act.put, List.getElem_toArray, List.getElem_cons_succ, List.getElem_cons_zero, List.setIfInBounds_toArray, List.set_cons_succ, List.set_cons_zero]
        refine wpAnyH_take (i := 11) (v := ?_) rfl (by kernel_rfl) (by kernel_rfl) (by kernel_rfl) (fun _ _ _ h => h) (Or.inl ⟨rfl, ?_⟩) hHeld ?_
        rotate_left
        · intro w' hS; obtain ⟨⟨a0, a1, a2, a3, a4, a5, a6, a7⟩, ⟨b0, b1, b2, b3, b4, b5, b6, b7⟩, b8⟩ := hS; go_simp <;> with_reducible rfl
        simp only [Act.put, List.getElem_toArray, List.getElem_cons_succ, List.getElem_cons_zero, List.setIfInBounds_toArray, List.set_cons_succ, List.set_cons_zero]
        refine wpAnyH_done (by kernel_rfl) ?_ _
        clear hHeld
        go_wp2
        go_roundw
        case rel => exact ⟨j + 1, some ⟨g3, 0, none⟩, c3, rs ++ [⟨E, l.length, c2, l⟩], by omega, by go_num, by rw [HLEN.out], by rw [HRN.out], ⟨by rw [HLEN.out, movesCells_snoc, HMC.out]; exact P2.out, P1.out⟩, P3.out, P4.out⟩
        case measure => simp [intOf]; omega
    · obtain rfl : j = ls.length := by omega
      have hd : decide ((ls.length : Int) < (ls.length : Int)) = false := by simp
      rw [List.take_length] at hrn
      have HR := Lib.hid hrn
      have HM := Lib.hid hM
      have HT := Lib.hid ht
      clear hrn hM ht
      go_wp2
      go_ret
      exact ⟨Q, r, rs, rfl, HR.out, ⟨own_lower HM.out.1 (by omega), Spread.raise HM.out.2 (by omega)⟩, HT.out⟩
end Go.Proofs.Ytoedcieofjcgkaa

namespace Go.Proofs.Ytoedcieofjcgkaa
open Go.RowKit

/-- What stateBehind hands back. -/
def BehindW (ls : List (List Int)) (bs : List Bool) (t : Bool) (l : List Int) (w : World) (e : Ending) (w' : World) : Prop :=
  ((l ∈ ridesAt bs t ls ∧ e = .returned (.tuple #[.agg (placeCells (flipped bs l) (!t)), .bool true])) ∨ (l ∉ ridesAt bs t ls ∧ e = .returned (.tuple #[.agg (placeCells bs t), .bool false]))) ∧ Below w.heap.size w w'
theorem crew_cell {w : World} {g p gL : Nat} {ty : TypeId} (h : Whole w g ty (crewCells p gL)) : w.cell? ⟨g, 18, none⟩ = some (.func (.func 120) #[] #[.pointer (some ⟨gL, 0, none⟩)]) := h.cell 18

set_option maxHeartbeats 12800000 in
set_option maxRecDepth 100000 in
theorem behindCrew_any (T : List Int → Int) (p gL g : Nat) (A D : Option Addr) (c n d : Nat) (ls : List (List Int)) (bs : List Bool) (t : Bool) (l : List Int) (w : World) (hp8 : p ≤ 8) (hbs : bs.length = p) (hls : ls.length ≤ 255) (hup : ∀ l ∈ ls, l ∈ upLists p p) (hF : RidesFn w T gL g A c ls) (hD : Holds w D (nums l)) (hl : l.length = n) (hn : n ≤ 9223372036854775807) :
    Calls Try.prog 78 #[.agg (crewCells p gL), .agg (placeCells bs t), .slice D n d] w (BehindW ls bs t l w) := by
  have HL := Lib.hid hl
  have HBS := Lib.hid hbs
  obtain ⟨f, hf⟩ : ∃ f : Nat → Bool, f = fun i => bs.getD i false := ⟨_, rfl⟩
  have HPL : Hid (placeCells bs t = place9 f t) := by show _ = _; rw [place_nine9, hf]
  have hr := ((Whole.fresh w 82 (crewCells p gL)).alloc (.cells (place9 f t) 79)).alloc (.cells (place9 (fun _ => false) false) 79)
  have hp := (Whole.fresh (w.alloc (.cells (crewCells p gL) 82)) 79 (place9 f t)).alloc (.cells (place9 (fun _ => false) false) 79)
  have hz := Whole.fresh ((w.alloc (.cells (crewCells p gL) 82)).alloc (.cells (place9 f t) 79)) 79 (place9 (fun _ => false) false)
  simp only [World.size_alloc] at hp hz
  have ht := below3 w (.cells (crewCells p gL) 82) (.cells (place9 f t) 79) (.cells (place9 (fun _ => false) false) 79)
  have hF1 := ((hF.alloc (.cells (crewCells p gL) 82)).alloc (.cells (place9 f t) 79)).alloc (.cells (place9 (fun _ => false) false) 79)
  rw [HPL.out]
  have e18 := crew_cell hr
  have HP := Lib.hid hp
  have HZ := Lib.hid hz
  have HT := Lib.hid ht
  have HF := Lib.hid hF1
  clear hl hbs hf hF hF1 hr hp hz ht
  unfold place9 at HP HZ HT HF e18
  unfold place9
  unfold crewCells ridesFnV at HP HZ HT HF e18
  unfold crewCells ridesFnV
  go_enter Try.func78, Try.ntmps78
  go_wp2_with fail
  have hrf := ridesFn_any T p gL g A c ls bs t _ hp8 HBS.out hls hup HF.out
  rw [HPL.out] at hrf
  unfold place9 at hrf
  refine hrf.mono ?_
  clear hrf
  rintro e w1 ⟨A1, c1, rs, rfl, hrn, hM, hb⟩
  have HP1 := Lib.hid (HP.out.below hb)
  have HZ1 := Lib.hid (HZ.out.below hb)
  have HT1 := Lib.hid (below_then HT.out hb HT.out.size)
  have HM := Lib.hid hM
  have HRN := Lib.hid hrn
  have hrl : rs.length ≤ 255 := by have h1 := congrArg List.length hrn; have h2 := rides_len bs t ls; rw [rowNums_len] at h1; omega
  clear HP HZ HT HF e18 hb hM hrn
  go_wp2
  go_loopw [15] (fun i wr => ∃ j : Nat, j ≤ rs.length ∧ i = .int .i64 j ∧ Below w1.heap.size w1 wr ∧ ∀ i (hi : i < rs.length), i < j → rs[i].xs ≠ l) (fun i _ => rs.length - (intOf i).toNat)
  case atStart => exact ⟨0, Nat.zero_le _, rfl, Below.refl _ _, fun i _ h => absurd h (by omega)⟩
  case round =>
    obtain ⟨j, hj, rfl, hb, hno⟩ := hrel
    have HNO := Lib.hid hno
    have hT := below_then HT1.out hb HT1.out.size
    have hZ := HZ1.out.below hb
    have hP := HP1.out.below hb
    clear hno
    obtain ⟨z0, z1, z2, z3, z4, z5, z6, z7⟩ := row8_of (f := fun _ => false) (t := false) hZ
    have z8 : wr.cell? ⟨w.heap.size + 1 + 1, 8, none⟩ = some (.bool false) := hZ.cell 8
    obtain ⟨y0, y1, y2, y3, y4, y5, y6, y7, y8⟩ := place_open hZ
    have hzl := hZ.lt
    by_cases hlt : j < rs.length
    · have hd : decide ((j : Int) < (rs.length : Int)) = true := by simp; omega
      have hMr := HM.out.below hb
      obtain ⟨gm, rfl, hgl, a0, a1, a2, a3, a4, a5, a6, a7, a8, a9⟩ := moves_row hMr hlt
      have hok := hMr.2.ok rs[j] (List.getElem_mem hlt)
      have hmem : rs[j].xs ∈ rowNums rs := List.mem_map.2 ⟨rs[j], List.getElem_mem hlt, rfl⟩
      rw [HRN.out] at hmem
      have HMEM := Lib.hid hmem
      have HSTEP : Hid (rs[j].xs ≠ l → ∀ i (hi : i < rs.length), i < j + 1 → rs[i].xs ≠ l) := fun hne i hi hij => by
        rcases Nat.lt_succ_iff_lt_or_eq.1 hij with h | rfl
        · exact HNO.out i hi h
        · exact hne
      obtain ⟨f', hf'⟩ : ∃ f' : Nat → Bool, f' = fun i => (flipped bs rs[j].xs).getD i false := ⟨_, rfl⟩
      have HPF : Hid (placeCells (flipped bs rs[j].xs) (!t) = place9 f' (!t)) := by show _ = _; rw [place_nine9, hf']
      replace a1 : wr.cell? ⟨gm, j * 10 + 1, none⟩ = some (.bool (f' 0)) := by rw [a1, hf']
      replace a2 : wr.cell? ⟨gm, j * 10 + 2, none⟩ = some (.bool (f' 1)) := by rw [a2, hf']
      replace a3 : wr.cell? ⟨gm, j * 10 + 3, none⟩ = some (.bool (f' 2)) := by rw [a3, hf']
      replace a4 : wr.cell? ⟨gm, j * 10 + 4, none⟩ = some (.bool (f' 3)) := by rw [a4, hf']
      replace a5 : wr.cell? ⟨gm, j * 10 + 5, none⟩ = some (.bool (f' 4)) := by rw [a5, hf']
      replace a6 : wr.cell? ⟨gm, j * 10 + 6, none⟩ = some (.bool (f' 5)) := by rw [a6, hf']
      replace a7 : wr.cell? ⟨gm, j * 10 + 7, none⟩ = some (.bool (f' 6)) := by rw [a7, hf']
      replace a8 : wr.cell? ⟨gm, j * 10 + 8, none⟩ = some (.bool (f' 7)) := by rw [a8, hf']
      clear hmem hf' hMr
      generalize rs[j] = r at a0 hok HMEM HSTEP HPF
      obtain ⟨rA, rn, rc, rx⟩ := r
      obtain ⟨hk1, hk2, hk3⟩ := hok
      simp only at hk1 hk2 hk3 HMEM HSTEP HPF
      unfold RowV.val at a0
      simp only at a0
      have HK1 := Lib.hid hk1
      have HK2 := Lib.hid hk2
      have HDR := Lib.hid (hD.below hT)
      have HBW := Lib.hid hb
      have HTW := Lib.hid hT
      clear hk1 hk2 hb hT
      go_wp2_with fail
      refine (equalI_any rA D rn n rc d rx l _ (HK1.out.alloc _) (HDR.out.alloc _) HK2.out HL.out hk3 hn).mono ?_
      rintro e w2 ⟨rfl, kk, rfl⟩
      by_cases he : rx = l
      · subst he
        rw [sameInts_yes rfl]
        have HT2 := Lib.hid (below_draws (HTW.out.alloc HTW.out.size (.cells #[.slice rA rn rc, .bool (f' 0), .bool (f' 1), .bool (f' 2), .bool (f' 3), .bool (f' 4), .bool (f' 5), .bool (f' 6), .bool (f' 7), .bool (!t)] 95)) kk)
        have hZ2 : Whole (World.drewN (wr.alloc (.cells #[.slice rA rn rc, .bool (f' 0), .bool (f' 1), .bool (f' 2), .bool (f' 3), .bool (f' 4), .bool (f' 5), .bool (f' 6), .bool (f' 7), .bool (!t)] 95)) kk) (w.heap.size + 1 + 1) 79 (place9 (fun _ => false) false) := hZ.alloc _
        clear HK1 HK2 a0 a1 a2 a3 a4 a5 a6 a7 a8 a9 hP hZ z0 z1 z2 z3 z4 z5 z6 z7 z8 y0 y1 y2 y3 y4 y5 y6 y7 y8
        obtain ⟨z0, z1, z2, z3, z4, z5, z6, z7⟩ := row8_of hZ2
        have z8 := hZ2.cell 8
        replace z8 : World.cell? (World.drewN (wr.alloc (.cells #[.slice rA rn rc, .bool (f' 0), .bool (f' 1), .bool (f' 2), .bool (f' 3), .bool (f' 4), .bool (f' 5), .bool (f' 6), .bool (f' 7), .bool (!t)] 95)) kk) ⟨w.heap.size + 1 + 1, 8, none⟩ = some (.bool false) := z8
        obtain ⟨y0, y1, y2, y3, y4, y5, y6, y7, y8⟩ := place_open hZ2
        go_wp2
        refine bodyPost_ret (v := .tuple #[.agg (place9 f' (!t)), .bool true]) (by simp [results, Try.results78, go_sem, z0, z1, z2, z3, z4, z5, z6, z7, z8, place9]) rfl ⟨.inl ⟨HMEM.out, by rw [HPF.out]⟩, ?_⟩
        exact set_place HT2.out (by omega)
      · rw [sameInts_no he]
        have HST := Lib.hid (HSTEP.out he)
        have HB2 := Lib.hid (below_draws (HBW.out.alloc HBW.out.size (.cells #[.slice rA rn rc, .bool (f' 0), .bool (f' 1), .bool (f' 2), .bool (f' 3), .bool (f' 4), .bool (f' 5), .bool (f' 6), .bool (f' 7), .bool (!t)] 95)) kk)
        clear HK1 HK2 a0 a1 a2 a3 a4 a5 a6 a7 a8 a9 hP hZ
        go_wp2
        go_roundw
        case rel => exact ⟨j + 1, by omega, by go_num, HB2.out, HST.out⟩
        case measure => simp [intOf]; omega
    · obtain rfl : j = rs.length := by omega
      have hd : decide ((rs.length : Int) < (rs.length : Int)) = false := by simp
      have HNI : Hid (l ∉ ridesAt bs t ls) := fun h => by
        rw [← HRN.out] at h
        obtain ⟨r, hr, he⟩ := List.mem_map.1 h
        obtain ⟨i, hi, rfl⟩ := List.getElem_of_mem hr
        exact HNO.out i hi hi he
      obtain ⟨p0, p1, p2, p3, p4, p5, p6, p7⟩ := row8_of (f := f) (t := t) hP
      have p8 : wr.cell? ⟨w.heap.size + 1, 8, none⟩ = some (.bool t) := hP.cell 8
      have HTW := Lib.hid hT
      clear hP hZ hT hb
      go_wp2
      refine bodyPost_ret (v := .tuple #[.agg (place9 f t), .bool false]) (by simp [results, Try.results78, go_sem, z0, z1, z2, z3, z4, z5, z6, z7, z8, place9]) rfl ⟨.inr ⟨HNI.out, by rw [HPL.out]⟩, ?_⟩
      exact set_place HTW.out (by omega)
end Go.Proofs.Ytoedcieofjcgkaa

namespace Go.Proofs.Ytoedcieofjcgkaa
open Go.RowKit

/-- The first k bits that are set. -/
def listTo (g k : Nat) : List Int := ((List.range k).filter (fun i => bitAt g i)).map Int.ofNat
theorem listTo_yes {g k : Nat} (h : bitAt g k = true) : listTo g (k + 1) = listTo g k ++ [(k : Int)] := by
  simp only [listTo, List.range_succ, List.filter_append, List.map_append, List.filter_cons, h]; rfl
theorem listTo_no {g k : Nat} (h : bitAt g k = false) : listTo g (k + 1) = listTo g k := by
  simp only [listTo, List.range_succ, List.filter_append, List.map_append, List.filter_cons, h]; simp
theorem listTo_len (g k : Nat) : (listTo g k).length ≤ k := by
  have := List.length_filter_le (fun i => bitAt g i) (List.range k)
  simpa [listTo] using this
def listOf (g : Nat) : List Int := listTo g 8
theorem bit_high {g k i : Nat} (h : g / 2 ^ k = 0) (hi : k ≤ i) : bitAt g i = false := by
  rw [bitAt_def]
  have h1 : g < 2 ^ k := by
    rcases Nat.div_eq_zero_iff.1 h with h | h
    · exact absurd h (by have := Nat.two_pow_pos k; omega)
    · exact h
  have h2 : 2 ^ k ≤ 2 ^ i := Nat.pow_le_pow_right (by omega) hi
  rw [Nat.div_eq_of_lt (by omega)]
  rfl
theorem listTo_all {g k : Nat} (h : g / 2 ^ k = 0) : ∀ j, k ≤ j → listTo g j = listTo g k
  | 0, hj => by have : k = 0 := by omega
                subst this; rfl
  | j + 1, hj => by
    by_cases hk : k = j + 1
    · subst hk; rfl
    · rw [listTo_no (bit_high h (by omega)), listTo_all h j (by omega)]
theorem testk (m k : Nat) : (((m : Int) / 2 ^ k).tmod 2 == 1) = bitAt m k := by
  rw [shr_nat, Int.tmod_eq_emod_of_nonneg (Int.natCast_nonneg _), bitAt_def]
  generalize m / 2 ^ k = x
  by_cases h : x % 2 = 1
  · have : ((x : Int) % 2) = 1 := by omega
    simp [h, this]
  · have : ((x : Int) % 2) ≠ 1 := by omega
    simp [h, this]

set_option maxHeartbeats 1600000 in
theorem cuList_any (g : Nat) (w : World) (hg : g < 256) :
    Calls Try.prog 134 #[.int .i64 g] w (OwnPost (listOf g) w) := by
  obtain ⟨i0, hi, hz0, hz1, hz2⟩ := info_parts info_int
  have HI := Lib.hid hi
  have HZ0 := Lib.hid hz0
  have HZ1 := Lib.hid hz1
  have HZ2 := Lib.hid hz2
  clear hi hz0 hz1 hz2
  go_enter Try.func134, Try.ntmps134
  go_wp2
  go_loopw [3, 4] (fun v i wr => ∃ (k : Nat) (E : Option Addr) (r : Nat), k ≤ 8 ∧ i = .int .i64 k ∧ v = .slice E (listTo g k).length r ∧ wr.ownsRow w.heap.size 3 1 (.slice E (listTo g k).length r) (listTo g k).length (nums (listTo g k)) ∧ Below w.heap.size w wr) (fun _ i _ => 8 - (intOf i).toNat)
  case atStart => exact ⟨0, none, 0, Nat.zero_le _, rfl, rfl, World.ownsRow_nil _ _ _ _, Below.refl _ _⟩
  case round =>
    obtain ⟨k, E, r, hk, rfl, rfl, hown, hb⟩ := hrel
    have hhl := listTo_len g k
    have hs2 : w.heap.size ≤ wr.heap.size := hb.size
    by_cases hgt : 0 < g / 2 ^ k
    · have hd : decide ((0 : Int) < (g : Int) / 2 ^ k) = true := by rw [shr_nat]; exact decide_eq_true (Int.natCast_pos.2 hgt)
      have hk8 : k < 8 := by
        by_cases h8 : k < 8
        · exact h8
        · have : k = 8 := by omega
          subst this
          have : g / 2 ^ 8 = 0 := Nat.div_eq_of_lt (by omega)
          omega
      have htk := testk g k
      have HOWN := Lib.hid hown
      have HB := Lib.hid hb
      clear hown hb hgt
      cases hx : bitAt g k
      · rw [hx] at htk
        have HS := Lib.hid (listTo_no hx)
        clear hx
        go_wp2
        go_roundw
        case rel => exact ⟨k + 1, E, r, by omega, by go_num, by rw [HS.out], by rw [HS.out]; exact HOWN.out, HB.out⟩
        case measure => simp [intOf]; omega
      · rw [hx] at htk
        have HS := Lib.hid (listTo_yes hx)
        have HLEN : Hid ((listTo g (k + 1)).length = (listTo g k).length + 1) := by show _ = _; rw [HS.out]; simp
        clear hx
        have HOW := Lib.hid (HOWN.out.alloc (.cells #[.int .i64 k] 3))
        have HBB := Lib.hid (HB.out.alloc hs2 (.cells #[.int .i64 k] 3))
        have HBASE := Lib.hid (show w.heap.size ≤ (wr.alloc (.cells #[.int .i64 k] 3)).heap.size by simp; omega)
        have HMAX := Lib.hid (show (listTo g k).length + 1 ≤ maxLen by unfold maxLen; omega)
        have HBYT := Lib.hid (show ((listTo g k).length + 1) * 8 ≤ 140737488355328 by omega)
        go_wp2_with (at_builtin; refine wpList_append_own _ rfl (.tmp 16) (.tmp 18) 33 rfl w.heap.size 3 i0 (.int .i64 0) 1 8 Try.underlying33 HI.out HZ0.out HZ1.out HZ2.out rfl (by decide) (.slice E (listTo g k).length r) (listTo g k).length (nums (listTo g k)) rfl HOW.out ⟨wr.heap.size, 0, none⟩ 1 1 [.int .i64 k] rfl rfl (cell_one_new _ _ _) (by simp [Value.oneCell']) HMAX.out HBYT.out HBASE.out ?_; intro v' w1 hown1 hg1 _; obtain ⟨D', q', hv', -⟩ := Fresh.of_own hown1 (Nat.le_refl _); rw [hv'] at hown1 ⊢; clear hv')
        have HBN := Lib.hid (HBB.out.grown hg1 HBASE.out (fun kk e => (HOW.out.lt _ e).1))
        have HON := Lib.hid hown1
        clear hg1 hown1
        go_roundw
        case rel => exact ⟨k + 1, D', q', by omega, by go_num, by rw [HLEN.out], by rw [HLEN.out, HS.out, show nums (listTo g k ++ [(k : Int)]) = nums (listTo g k) ++ [.int .i64 k] by simp [nums]]; exact HON.out, HBN.out⟩
        case measure => simp [intOf]; omega
    · have h0 : g / 2 ^ k = 0 := Nat.eq_zero_of_not_pos hgt
      have hd : decide ((0 : Int) < (g : Int) / 2 ^ k) = false := by rw [shr_nat, h0]; rfl
      have HA := Lib.hid (listTo_all h0 8 hk)
      have HO := Lib.hid hown
      have HB := Lib.hid hb
      clear hown hb hgt h0
      go_wp2
      go_ret
      refine ⟨E, r, by rw [listOf, HA.out]; rfl, ?_, HB.out⟩
      rw [listOf, HA.out]
      exact HO.out
end Go.Proofs.Ytoedcieofjcgkaa

namespace Go.Proofs.Ytoedcieofjcgkaa
open Go.RowKit

/-- Those on the boat's side. -/
def hereM (k x : Nat) : Nat := if x % 2 = 0 then 2 ^ (2 * k) - 1 - x / 2 else x / 2
/-- A row, told by bits. -/
def canM (k : Nat) (q : Int) (x g : Nat) : Bool := decide (g &&& hereM k x = g) && (decide (((listOf g).length : Int) ≤ q) && (calm k (bitAt g) && quiet k (bitAt ((x ^^^ (2 * g + 1)) / 2))))
theorem can_no1 {k : Nat} {q : Int} {x g : Nat} (h : g &&& hereM k x ≠ g) : canM k q x g = false := by simp [canM, h]
theorem can_no2 {k : Nat} {q : Int} {x g : Nat} (h : q < ((listOf g).length : Int)) : canM k q x g = false := by simp [canM]; omega
theorem can_no3 {k : Nat} {q : Int} {x g : Nat} (h : calm k (bitAt g) = false) : canM k q x g = false := by simp [canM, h]
theorem can_on {k : Nat} {q : Int} {x g : Nat} (h1 : g &&& hereM k x = g) (h2 : ¬ q < ((listOf g).length : Int)) (h3 : calm k (bitAt g) = true) : canM k q x g = quiet k (bitAt ((x ^^^ (2 * g + 1)) / 2)) := by
  have h2' : ((listOf g).length : Int) ≤ q := by omega
  simp [canM, h1, h2', h3]

set_option maxHeartbeats 12800000 in
set_option maxRecDepth 100000 in
set_option linter.unusedSimpArgs false in
theorem cuCan_any (k : Nat) (q : Int) (x g : Nat) (w : World) (hk : k ≤ 4) (hx : x / 2 < 2 ^ (2 * k)) (hg0 : 1 ≤ g) (hg : g < 2 ^ (2 * k)) :
    Calls Try.prog 129 #[.agg #[.int .i64 k, .int .i64 q], .int .i64 x, .int .i64 g] w fun e w' => e = .returned (.bool (canM k q x g)) ∧ Below w.heap.size w w' := by
  have hp := pow_c hk
  have hg8 : g < 256 := by omega
  have hx8 : x / 2 < 256 := by omega
  have hc := Whole.fresh w 28 #[.int .i64 k, .int .i64 q]
  have ht := below1 w (.cells #[.int .i64 k, .int .i64 q] 28)
  have HXL := Lib.hid hx
  have HGL := Lib.hid hg
  obtain ⟨H, hH⟩ : ∃ H : Nat, H = hereM k x := ⟨_, rfl⟩
  have hHs : H < 256 := by rw [hH, hereM]; split <;> omega
  have HH := Lib.hid hH
  have hz : ((g : Int) == 0) = false := by simp; omega
  clear hx hg hH
  go_enter Try.func129, Try.ntmps129
  go_upto_if 12 with fail
  go_cut [7] (fun s7 wx => s7 = .int .i64 (H : Int) ∧ Whole wx w.heap.size 28 #[.int .i64 k, .int .i64 q] ∧ Below w.heap.size w wx)
  case first =>
    by_cases hev : x % 2 = 0
    · have h2 : ((x : Int) % 2 == 0) = true := by simp; omega
      have HE : Hid ((H : Int) = ((2 ^ (2 * k) : Nat) : Int) - 1 - (x : Int) / 2) := by show _ = _; rw [HH.out, hereM, if_pos hev]; have := HXL.out; omega
      obtain ⟨N, hN⟩ : ∃ N : Nat, N = 2 ^ (2 * k) := ⟨_, rfl⟩
      rw [← hN] at hp HE
      have HNN := Lib.hid hN
      clear hev hN
      go_wp2_with fail
      refine (cuSize_any k q _ hk).mono ?_
      rintro e w1 ⟨rfl, hb⟩
      rw [← HNN.out]
      have hc1 := hc.below hb
      have ht1 := below_then ht hb ht.size
      clear hb hc ht
      go_wp2_with fail
      go_meet
      exact ⟨by rw [HE.out], hc1, ht1⟩
    · have h2 : ((x : Int) % 2 == 0) = false := by simp; omega
      have HE : Hid ((H : Int) = (x : Int) / 2) := by show _ = _; rw [HH.out, hereM, if_neg hev]; omega
      clear hev
      go_wp2_with fail
      go_meet
      exact ⟨by rw [HE.out], hc, ht⟩
  case rest =>
    clear hc ht
    obtain ⟨rfl, hc, ht⟩ := hcut
    by_cases h1 : g &&& H = g
    · have hne : (Go.bits .and .i64 (g : Int) (H : Int) != (g : Int)) = false := by rw [bits_and_nat _ _ (by omega) (by omega), h1]; simp
      have H1 : Hid (g &&& hereM k x = g) := by show _ = _; rw [← HH.out]; exact h1
      clear h1
      by_cases h2 : q < ((listOf g).length : Int)
      · have hgt : decide (q < ((listOf g).length : Int)) = true := by simpa using h2
        have HP := Lib.hid (can_no2 (k := k) (x := x) h2)
        clear h2
        go_wp2_with fail
        refine wp_region_held_drew (S := (Box1 w.heap.size (.int .i64 k) (.int .i64 q))) (by kernel_rfl) (box1_of hc.drew) (fun hHeld => ?_)
        replace ht := ht.drew
        replace hc := hc.drew
        refine wpAnyH_take (i := 0) (v := ?_) rfl (by kernel_rfl) (by kernel_rfl) (by kernel_rfl) (fun _ _ _ h => h) (Or.inl ⟨rfl, ?_⟩) hHeld ?_
        rotate_left
        · intro w' hS; obtain ⟨s0, s1⟩ := hS; go_simp <;> with_reducible rfl
        simp only [Act.put, List.getElem_toArray, List.getElem_cons_succ, List.getElem_cons_zero, List.setIfInBounds_toArray, List.set_cons_succ, List.set_cons_zero]
        refine wpAnyH_take (i := 1) (v := ?_) rfl (by kernel_rfl) (by kernel_rfl) (by kernel_rfl) (fun _ _ _ h => h) (Or.inl ⟨rfl, ?_⟩) hHeld ?_
        rotate_left
        · intro w' hS; obtain ⟨s0, s1⟩ := hS; go_simp <;> with_reducible rfl
        simp only [Act.put, List.getElem_toArray, List.getElem_cons_succ, List.getElem_cons_zero, List.setIfInBounds_toArray, List.set_cons_succ, List.set_cons_zero]
        refine wpAnyH_take (i := 2) (v := ?_) rfl (by kernel_rfl) (by kernel_rfl) (by kernel_rfl) (fun _ _ _ h => h) (Or.inl ⟨rfl, ?_⟩) hHeld ?_
        rotate_left
        · intro w' hS; obtain ⟨s0, s1⟩ := hS; go_simp <;> with_reducible rfl
        simp only [Act.put, List.getElem_toArray, List.getElem_cons_succ, List.getElem_cons_zero, List.setIfInBounds_toArray, List.set_cons_succ, List.set_cons_zero]
        refine wpAnyH_take (i := 3) (v := ?_) rfl (by kernel_rfl) (by kernel_rfl) (by kernel_rfl) (fun _ _ _ h => h) (Or.inl ⟨rfl, ?_⟩) hHeld ?_
        rotate_left
        · intro w' hS; obtain ⟨s0, s1⟩ := hS; go_simp <;> with_reducible rfl
        simp only [Act.put, List.getElem_toArray, List.getElem_cons_succ, List.getElem_cons_zero, List.setIfInBounds_toArray, List.set_cons_succ, List.set_cons_zero]
        refine wpAnyH_take (i := 4) (v := ?_) rfl (by kernel_rfl) (by kernel_rfl) (by kernel_rfl) (fun _ _ _ h => h) (Or.inl ⟨rfl, ?_⟩) hHeld ?_
        rotate_left
        · intro w' hS; obtain ⟨s0, s1⟩ := hS; go_simp <;> with_reducible rfl
        simp only [Act.put, List.getElem_toArray, List.getElem_cons_succ, List.getElem_cons_zero, List.setIfInBounds_toArray, List.set_cons_succ, List.set_cons_zero]
        refine wpAnyH_take (i := 5) (v := ?_) rfl (by kernel_rfl) (by kernel_rfl) (by kernel_rfl) (fun _ _ _ h => h) (Or.inl ⟨rfl, ?_⟩) hHeld ?_
        rotate_left
        · intro w' hS; obtain ⟨s0, s1⟩ := hS; go_simp <;> with_reducible rfl
        simp only [Act.put, List.getElem_toArray, List.getElem_cons_succ, List.getElem_cons_zero, List.setIfInBounds_toArray, List.set_cons_succ, List.set_cons_zero]
        refine wpAnyH_take (i := 6) (v := ?_) rfl (by kernel_rfl) (by kernel_rfl) (by kernel_rfl) (fun _ _ _ h => h) (Or.inl ⟨rfl, ?_⟩) hHeld ?_
        rotate_left
        · intro w' hS; obtain ⟨s0, s1⟩ := hS; go_simp <;> with_reducible rfl
        simp only [Act.put, List.getElem_toArray, List.getElem_cons_succ, List.getElem_cons_zero, List.setIfInBounds_toArray, List.set_cons_succ, List.set_cons_zero]
        refine wpAnyH_take (i := 7) (v := ?_) rfl (by kernel_rfl) (by kernel_rfl) (by kernel_rfl) (fun _ _ _ h => h) (Or.inl ⟨rfl, ?_⟩) hHeld ?_
        rotate_left
        · intro w' hS; obtain ⟨s0, s1⟩ := hS; go_simp <;> with_reducible rfl
        simp only [Act.put, List.getElem_toArray, List.getElem_cons_succ, List.getElem_cons_zero, List.setIfInBounds_toArray, List.set_cons_succ, List.set_cons_zero]
        refine wpAnyH_take (i := 8) (v := ?_) rfl (by kernel_rfl) (by kernel_rfl) (by kernel_rfl) (fun _ _ _ h => h) (Or.inl ⟨rfl, ?_⟩) hHeld ?_
        rotate_left
        · intro w' hS; obtain ⟨s0, s1⟩ := hS; go_simp <;> with_reducible rfl
        simp only [Act.put, List.getElem_toArray, List.getElem_cons_succ, List.getElem_cons_zero, List.setIfInBounds_toArray, List.set_cons_succ, List.set_cons_zero]
        refine wpAnyH_take (i := 9) (v := ?_) rfl (by kernel_rfl) (by kernel_rfl) (by kernel_rfl) (fun _ _ _ h => h) (Or.inl ⟨rfl, ?_⟩) hHeld ?_
        rotate_left
        · intro w' hS; obtain ⟨s0, s1⟩ := hS; go_simp <;> with_reducible rfl
        simp only [Act.put, List.getElem_toArray, List.getElem_cons_succ, List.getElem_cons_zero, List.setIfInBounds_toArray, List.set_cons_succ, List.set_cons_zero]
        refine wpAnyH_take (i := 10) (v := ?_) rfl (by kernel_rfl) (by kernel_rfl) (by kernel_rfl) (fun _ _ _ h => h) (Or.inl ⟨rfl, ?_⟩) hHeld ?_
        rotate_left
        · intro w' hS; obtain ⟨s0, s1⟩ := hS; go_simp <;> with_reducible rfl
        simp only [Act.put, List.getElem_toArray, List.getElem_cons_succ, List.getElem_cons_zero, List.setIfInBounds_toArray, List.set_cons_succ, List.set_cons_zero]
        refine wpAnyH_take (i := 13) (v := ?_) rfl (by kernel_rfl) (by kernel_rfl) (by kernel_rfl) (fun _ _ _ h => h) (Or.inl ⟨rfl, ?_⟩) hHeld ?_
        rotate_left
        · intro w' hS; obtain ⟨s0, s1⟩ := hS; go_simp <;> with_reducible rfl
        simp only [Act.put, List.getElem_toArray, List.getElem_cons_succ, List.getElem_cons_zero, List.setIfInBounds_toArray, List.set_cons_succ, List.set_cons_zero]
        refine wpAnyH_take (i := 14) (v := ?_) rfl (by kernel_rfl) (by kernel_rfl) (by kernel_rfl) (fun _ _ _ h => h) (Or.inl ⟨rfl, ?_⟩) hHeld ?_
        rotate_left
        · intro w' hS; obtain ⟨s0, s1⟩ := hS; go_simp <;> with_reducible rfl
        simp only [Act.put, List.getElem_toArray, List.getElem_cons_succ, List.getElem_cons_zero, List.setIfInBounds_toArray, List.set_cons_succ, List.set_cons_zero]
        refine wpAnyH_ready (rs := [11]) (by kernel_rfl) (by simp) (AllReadyH.cons rfl (fun K hK => ?_) AllReadyH.nil)
        go_simp
        refine (cuList_any g _ hg8).mono ?_
        rintro e w1 ⟨E, r, rfl, -, hb⟩
        replace ht := below_then ht hb ht.size
        replace hc := hc.below hb
        clear hb
        refine hK.out _ _ (box1_of hc) (fun hHeld => ?_)
        clear hK K
        try simp only [Act.put, List.getElem_toArray, List.getElem_cons_succ, List.getElem_cons_zero, List.setIfInBounds_toArray, List.set_cons_succ, List.set_cons_zero]
        refine wpAnyH_take (i := 12) (v := ?_) rfl (by kernel_rfl) (by kernel_rfl) (by kernel_rfl) (fun _ _ _ h => h) (Or.inl ⟨rfl, ?_⟩) hHeld ?_
        rotate_left
        · intro w' hS; obtain ⟨s0, s1⟩ := hS; go_simp <;> with_reducible rfl
        simp only [Act.put, List.getElem_toArray, List.getElem_cons_succ, List.getElem_cons_zero, List.setIfInBounds_toArray, List.set_cons_succ, List.set_cons_zero]
        refine wpAnyH_take (i := 15) (v := ?_) rfl (by kernel_rfl) (by kernel_rfl) (by kernel_rfl) (fun _ _ _ h => h) (Or.inl ⟨rfl, ?_⟩) hHeld ?_
        rotate_left
        · intro w' hS; obtain ⟨s0, s1⟩ := hS; go_simp <;> with_reducible rfl
        simp only [Act.put, List.getElem_toArray, List.getElem_cons_succ, List.getElem_cons_zero, List.setIfInBounds_toArray, List.set_cons_succ, List.set_cons_zero]
        refine wpAnyH_take (i := 16) (v := ?_) rfl (by kernel_rfl) (by kernel_rfl) (by kernel_rfl) (fun _ _ _ h => h) (Or.inl ⟨rfl, ?_⟩) hHeld ?_
        rotate_left
        · intro w' hS; obtain ⟨s0, s1⟩ := hS; go_simp <;> with_reducible rfl
        simp only [Act.put, List.getElem_toArray, List.getElem_cons_succ, List.getElem_cons_zero, List.setIfInBounds_toArray, List.set_cons_succ, List.set_cons_zero]
        refine wpAnyH_take (i := 17) (v := ?_) rfl (by kernel_rfl) (by kernel_rfl) (by kernel_rfl) (fun _ _ _ h => h) (Or.inl ⟨rfl, ?_⟩) hHeld ?_
        rotate_left
        · intro w' hS; obtain ⟨s0, s1⟩ := hS; go_simp <;> with_reducible rfl
        simp only [Act.put, List.getElem_toArray, List.getElem_cons_succ, List.getElem_cons_zero, List.setIfInBounds_toArray, List.set_cons_succ, List.set_cons_zero]
        refine wpAnyH_take (i := 18) (v := undef) rfl (by kernel_rfl) (by kernel_rfl) (by kernel_rfl) (fun _ _ _ h => h) (Or.inr ⟨by simp [Region.wanted, yielded], rfl⟩) hHeld ?_
        simp only [Act.put, List.getElem_toArray, List.getElem_cons_succ, List.getElem_cons_zero, List.setIfInBounds_toArray, List.set_cons_succ, List.set_cons_zero]
        refine wpAnyH_take (i := 19) (v := undef) rfl (by kernel_rfl) (by kernel_rfl) (by kernel_rfl) (fun _ _ _ h => h) (Or.inr ⟨by simp [Region.wanted, yielded], rfl⟩) hHeld ?_
        simp only [Act.put, List.getElem_toArray, List.getElem_cons_succ, List.getElem_cons_zero, List.setIfInBounds_toArray, List.set_cons_succ, List.set_cons_zero]
        refine wpAnyH_take (i := 20) (v := undef) rfl (by kernel_rfl) (by kernel_rfl) (by kernel_rfl) (fun _ _ _ h => h) (Or.inr ⟨by simp [Region.wanted, yielded], rfl⟩) hHeld ?_
        simp only [Act.put, List.getElem_toArray, List.getElem_cons_succ, List.getElem_cons_zero, List.setIfInBounds_toArray, List.set_cons_succ, List.set_cons_zero]
        refine wpAnyH_take (i := 21) (v := undef) rfl (by kernel_rfl) (by kernel_rfl) (by kernel_rfl) (fun _ _ _ h => h) (Or.inr ⟨by simp [Region.wanted, yielded], rfl⟩) hHeld ?_
        simp only [Act.put, List.getElem_toArray, List.getElem_cons_succ, List.getElem_cons_zero, List.setIfInBounds_toArray, List.set_cons_succ, List.set_cons_zero]
        refine wpAnyH_take (i := 22) (v := undef) rfl (by kernel_rfl) (by kernel_rfl) (by kernel_rfl) (fun _ _ _ h => h) (Or.inr ⟨by simp [Region.wanted, yielded], rfl⟩) hHeld ?_
        simp only [Act.put, List.getElem_toArray, List.getElem_cons_succ, List.getElem_cons_zero, List.setIfInBounds_toArray, List.set_cons_succ, List.set_cons_zero]
        refine wpAnyH_take (i := 23) (v := ?_) rfl (by kernel_rfl) (by kernel_rfl) (by kernel_rfl) (fun _ _ _ h => h) (Or.inl ⟨rfl, ?_⟩) hHeld ?_
        rotate_left
        · intro w' hS; obtain ⟨s0, s1⟩ := hS; go_simp <;> with_reducible rfl
        simp only [Act.put, List.getElem_toArray, List.getElem_cons_succ, List.getElem_cons_zero, List.setIfInBounds_toArray, List.set_cons_succ, List.set_cons_zero]
        refine wpAnyH_done (by kernel_rfl) ?_ _
        clear hHeld
        go_wp2
        go_ret
        exact ⟨ret_of (by rw [HP.out]; rfl), ht⟩
      · have hgt : decide (q < ((listOf g).length : Int)) = false := by simpa using h2
        cases h3 : calm k (bitAt g)
        · have HP := Lib.hid (can_no3 (q := q) (x := x) h3)
          have HCA := Lib.hid h3
          clear h2 h3
          go_wp2_with fail
          refine wp_region_held_drew (S := (Box1 w.heap.size (.int .i64 k) (.int .i64 q))) (by kernel_rfl) (box1_of hc.drew) (fun hHeld => ?_)
          replace ht := ht.drew
          replace hc := hc.drew
          refine wpAnyH_take (i := 0) (v := ?_) rfl (by kernel_rfl) (by kernel_rfl) (by kernel_rfl) (fun _ _ _ h => h) (Or.inl ⟨rfl, ?_⟩) hHeld ?_
          rotate_left
          · intro w' hS; obtain ⟨s0, s1⟩ := hS; go_simp <;> with_reducible rfl
          simp only [Act.put, List.getElem_toArray, List.getElem_cons_succ, List.getElem_cons_zero, List.setIfInBounds_toArray, List.set_cons_succ, List.set_cons_zero]
          refine wpAnyH_take (i := 1) (v := ?_) rfl (by kernel_rfl) (by kernel_rfl) (by kernel_rfl) (fun _ _ _ h => h) (Or.inl ⟨rfl, ?_⟩) hHeld ?_
          rotate_left
          · intro w' hS; obtain ⟨s0, s1⟩ := hS; go_simp <;> with_reducible rfl
          simp only [Act.put, List.getElem_toArray, List.getElem_cons_succ, List.getElem_cons_zero, List.setIfInBounds_toArray, List.set_cons_succ, List.set_cons_zero]
          refine wpAnyH_take (i := 2) (v := ?_) rfl (by kernel_rfl) (by kernel_rfl) (by kernel_rfl) (fun _ _ _ h => h) (Or.inl ⟨rfl, ?_⟩) hHeld ?_
          rotate_left
          · intro w' hS; obtain ⟨s0, s1⟩ := hS; go_simp <;> with_reducible rfl
          simp only [Act.put, List.getElem_toArray, List.getElem_cons_succ, List.getElem_cons_zero, List.setIfInBounds_toArray, List.set_cons_succ, List.set_cons_zero]
          refine wpAnyH_take (i := 3) (v := ?_) rfl (by kernel_rfl) (by kernel_rfl) (by kernel_rfl) (fun _ _ _ h => h) (Or.inl ⟨rfl, ?_⟩) hHeld ?_
          rotate_left
          · intro w' hS; obtain ⟨s0, s1⟩ := hS; go_simp <;> with_reducible rfl
          simp only [Act.put, List.getElem_toArray, List.getElem_cons_succ, List.getElem_cons_zero, List.setIfInBounds_toArray, List.set_cons_succ, List.set_cons_zero]
          refine wpAnyH_take (i := 4) (v := ?_) rfl (by kernel_rfl) (by kernel_rfl) (by kernel_rfl) (fun _ _ _ h => h) (Or.inl ⟨rfl, ?_⟩) hHeld ?_
          rotate_left
          · intro w' hS; obtain ⟨s0, s1⟩ := hS; go_simp <;> with_reducible rfl
          simp only [Act.put, List.getElem_toArray, List.getElem_cons_succ, List.getElem_cons_zero, List.setIfInBounds_toArray, List.set_cons_succ, List.set_cons_zero]
          refine wpAnyH_take (i := 5) (v := ?_) rfl (by kernel_rfl) (by kernel_rfl) (by kernel_rfl) (fun _ _ _ h => h) (Or.inl ⟨rfl, ?_⟩) hHeld ?_
          rotate_left
          · intro w' hS; obtain ⟨s0, s1⟩ := hS; go_simp <;> with_reducible rfl
          simp only [Act.put, List.getElem_toArray, List.getElem_cons_succ, List.getElem_cons_zero, List.setIfInBounds_toArray, List.set_cons_succ, List.set_cons_zero]
          refine wpAnyH_take (i := 6) (v := ?_) rfl (by kernel_rfl) (by kernel_rfl) (by kernel_rfl) (fun _ _ _ h => h) (Or.inl ⟨rfl, ?_⟩) hHeld ?_
          rotate_left
          · intro w' hS; obtain ⟨s0, s1⟩ := hS; go_simp <;> with_reducible rfl
          simp only [Act.put, List.getElem_toArray, List.getElem_cons_succ, List.getElem_cons_zero, List.setIfInBounds_toArray, List.set_cons_succ, List.set_cons_zero]
          refine wpAnyH_take (i := 7) (v := ?_) rfl (by kernel_rfl) (by kernel_rfl) (by kernel_rfl) (fun _ _ _ h => h) (Or.inl ⟨rfl, ?_⟩) hHeld ?_
          rotate_left
          · intro w' hS; obtain ⟨s0, s1⟩ := hS; go_simp <;> with_reducible rfl
          simp only [Act.put, List.getElem_toArray, List.getElem_cons_succ, List.getElem_cons_zero, List.setIfInBounds_toArray, List.set_cons_succ, List.set_cons_zero]
          refine wpAnyH_take (i := 8) (v := ?_) rfl (by kernel_rfl) (by kernel_rfl) (by kernel_rfl) (fun _ _ _ h => h) (Or.inl ⟨rfl, ?_⟩) hHeld ?_
          rotate_left
          · intro w' hS; obtain ⟨s0, s1⟩ := hS; go_simp <;> with_reducible rfl
          simp only [Act.put, List.getElem_toArray, List.getElem_cons_succ, List.getElem_cons_zero, List.setIfInBounds_toArray, List.set_cons_succ, List.set_cons_zero]
          refine wpAnyH_take (i := 9) (v := ?_) rfl (by kernel_rfl) (by kernel_rfl) (by kernel_rfl) (fun _ _ _ h => h) (Or.inl ⟨rfl, ?_⟩) hHeld ?_
          rotate_left
          · intro w' hS; obtain ⟨s0, s1⟩ := hS; go_simp <;> with_reducible rfl
          simp only [Act.put, List.getElem_toArray, List.getElem_cons_succ, List.getElem_cons_zero, List.setIfInBounds_toArray, List.set_cons_succ, List.set_cons_zero]
          refine wpAnyH_take (i := 10) (v := ?_) rfl (by kernel_rfl) (by kernel_rfl) (by kernel_rfl) (fun _ _ _ h => h) (Or.inl ⟨rfl, ?_⟩) hHeld ?_
          rotate_left
          · intro w' hS; obtain ⟨s0, s1⟩ := hS; go_simp <;> with_reducible rfl
          simp only [Act.put, List.getElem_toArray, List.getElem_cons_succ, List.getElem_cons_zero, List.setIfInBounds_toArray, List.set_cons_succ, List.set_cons_zero]
          refine wpAnyH_take (i := 13) (v := ?_) rfl (by kernel_rfl) (by kernel_rfl) (by kernel_rfl) (fun _ _ _ h => h) (Or.inl ⟨rfl, ?_⟩) hHeld ?_
          rotate_left
          · intro w' hS; obtain ⟨s0, s1⟩ := hS; go_simp <;> with_reducible rfl
          simp only [Act.put, List.getElem_toArray, List.getElem_cons_succ, List.getElem_cons_zero, List.setIfInBounds_toArray, List.set_cons_succ, List.set_cons_zero]
          refine wpAnyH_take (i := 14) (v := ?_) rfl (by kernel_rfl) (by kernel_rfl) (by kernel_rfl) (fun _ _ _ h => h) (Or.inl ⟨rfl, ?_⟩) hHeld ?_
          rotate_left
          · intro w' hS; obtain ⟨s0, s1⟩ := hS; go_simp <;> with_reducible rfl
          simp only [Act.put, List.getElem_toArray, List.getElem_cons_succ, List.getElem_cons_zero, List.setIfInBounds_toArray, List.set_cons_succ, List.set_cons_zero]
          refine wpAnyH_ready (rs := [11]) (by kernel_rfl) (by simp) (AllReadyH.cons rfl (fun K hK => ?_) AllReadyH.nil)
          go_simp
          refine (cuList_any g _ hg8).mono ?_
          rintro e w1 ⟨E, r, rfl, -, hb⟩
          replace ht := below_then ht hb ht.size
          replace hc := hc.below hb
          clear hb
          refine hK.out _ _ (box1_of hc) (fun hHeld => ?_)
          clear hK K
          try simp only [Act.put, List.getElem_toArray, List.getElem_cons_succ, List.getElem_cons_zero, List.setIfInBounds_toArray, List.set_cons_succ, List.set_cons_zero]
          refine wpAnyH_take (i := 12) (v := ?_) rfl (by kernel_rfl) (by kernel_rfl) (by kernel_rfl) (fun _ _ _ h => h) (Or.inl ⟨rfl, ?_⟩) hHeld ?_
          rotate_left
          · intro w' hS; obtain ⟨s0, s1⟩ := hS; go_simp <;> with_reducible rfl
          simp only [Act.put, List.getElem_toArray, List.getElem_cons_succ, List.getElem_cons_zero, List.setIfInBounds_toArray, List.set_cons_succ, List.set_cons_zero]
          refine wpAnyH_take (i := 15) (v := ?_) rfl (by kernel_rfl) (by kernel_rfl) (by kernel_rfl) (fun _ _ _ h => h) (Or.inl ⟨rfl, ?_⟩) hHeld ?_
          rotate_left
          · intro w' hS; obtain ⟨s0, s1⟩ := hS; go_simp <;> with_reducible rfl
          simp only [Act.put, List.getElem_toArray, List.getElem_cons_succ, List.getElem_cons_zero, List.setIfInBounds_toArray, List.set_cons_succ, List.set_cons_zero]
          refine wpAnyH_take (i := 16) (v := ?_) rfl (by kernel_rfl) (by kernel_rfl) (by kernel_rfl) (fun _ _ _ h => h) (Or.inl ⟨rfl, ?_⟩) hHeld ?_
          rotate_left
          · intro w' hS; obtain ⟨s0, s1⟩ := hS; go_simp <;> with_reducible rfl
          simp only [Act.put, List.getElem_toArray, List.getElem_cons_succ, List.getElem_cons_zero, List.setIfInBounds_toArray, List.set_cons_succ, List.set_cons_zero]
          refine wpAnyH_take (i := 17) (v := ?_) rfl (by kernel_rfl) (by kernel_rfl) (by kernel_rfl) (fun _ _ _ h => h) (Or.inl ⟨rfl, ?_⟩) hHeld ?_
          rotate_left
          · intro w' hS; obtain ⟨s0, s1⟩ := hS; go_simp <;> with_reducible rfl
          simp only [Act.put, List.getElem_toArray, List.getElem_cons_succ, List.getElem_cons_zero, List.setIfInBounds_toArray, List.set_cons_succ, List.set_cons_zero]
          refine wpAnyH_take (i := 18) (v := ?_) rfl (by kernel_rfl) (by kernel_rfl) (by kernel_rfl) (fun _ _ _ h => h) (Or.inl ⟨rfl, ?_⟩) hHeld ?_
          rotate_left
          · intro w' hS; obtain ⟨s0, s1⟩ := hS; go_simp <;> with_reducible rfl
          simp only [Act.put, List.getElem_toArray, List.getElem_cons_succ, List.getElem_cons_zero, List.setIfInBounds_toArray, List.set_cons_succ, List.set_cons_zero]
          refine wpAnyH_take (i := 19) (v := ?_) rfl (by kernel_rfl) (by kernel_rfl) (by kernel_rfl) (fun _ _ _ h => h) (Or.inl ⟨rfl, ?_⟩) hHeld ?_
          rotate_left
          · intro w' hS; obtain ⟨s0, s1⟩ := hS; go_simp <;> with_reducible rfl
          simp only [Act.put, List.getElem_toArray, List.getElem_cons_succ, List.getElem_cons_zero, List.setIfInBounds_toArray, List.set_cons_succ, List.set_cons_zero]
          refine wpAnyH_take (i := 20) (v := ?_) rfl (by kernel_rfl) (by kernel_rfl) (by kernel_rfl) (fun _ _ _ h => h) (Or.inl ⟨rfl, ?_⟩) hHeld ?_
          rotate_left
          · intro w' hS; obtain ⟨s0, s1⟩ := hS; go_simp <;> with_reducible rfl
          simp only [Act.put, List.getElem_toArray, List.getElem_cons_succ, List.getElem_cons_zero, List.setIfInBounds_toArray, List.set_cons_succ, List.set_cons_zero]
          refine wpAnyH_ready (rs := [21]) (by kernel_rfl) (by simp) (AllReadyH.cons rfl (fun K hK => ?_) AllReadyH.nil)
          go_simp
          refine (cuCalm_any k g _ hk).mono ?_
          rintro e w2 ⟨rfl, rfl⟩
          rw [HCA.out]
          refine hK.out _ _ (box1_of hc) (fun hHeld => ?_)
          clear hK K
          try simp only [Act.put, List.getElem_toArray, List.getElem_cons_succ, List.getElem_cons_zero, List.setIfInBounds_toArray, List.set_cons_succ, List.set_cons_zero]
          refine wpAnyH_take (i := 22) (v := ?_) rfl (by kernel_rfl) (by kernel_rfl) (by kernel_rfl) (fun _ _ _ h => h) (Or.inl ⟨rfl, ?_⟩) hHeld ?_
          rotate_left
          · intro w' hS; obtain ⟨s0, s1⟩ := hS; go_simp <;> with_reducible rfl
          simp only [Act.put, List.getElem_toArray, List.getElem_cons_succ, List.getElem_cons_zero, List.setIfInBounds_toArray, List.set_cons_succ, List.set_cons_zero]
          refine wpAnyH_take (i := 23) (v := ?_) rfl (by kernel_rfl) (by kernel_rfl) (by kernel_rfl) (fun _ _ _ h => h) (Or.inl ⟨rfl, ?_⟩) hHeld ?_
          rotate_left
          · intro w' hS; obtain ⟨s0, s1⟩ := hS; go_simp <;> with_reducible rfl
          simp only [Act.put, List.getElem_toArray, List.getElem_cons_succ, List.getElem_cons_zero, List.setIfInBounds_toArray, List.set_cons_succ, List.set_cons_zero]
          refine wpAnyH_done (by kernel_rfl) ?_ _
          clear hHeld
          go_wp2
          go_ret
          exact ⟨ret_of (by rw [HP.out]; rfl), ht⟩
        · have HP := Lib.hid (can_on H1.out h2 h3)
          have HCA := Lib.hid h3
          have HXX := Lib.hid (show Go.bits .xor .i64 (x : Int) (2 * (g : Int) + 1) = ((x ^^^ (2 * g + 1) : Nat) : Int) by
            rw [show (2 * (g : Int) + 1) = ((2 * g + 1 : Nat) : Int) by omega]; exact bits_xor_nat _ _ (by omega) (by omega))
          have HYL : Hid ((x ^^^ (2 * g + 1)) / 2 < 2 ^ (2 * k)) := by
            show _ < _
            have ha : x < 2 ^ (2 * k + 1) := by have := HXL.out; rw [Nat.pow_succ]; omega
            have hb : 2 * g + 1 < 2 ^ (2 * k + 1) := by have := HGL.out; rw [Nat.pow_succ]; omega
            have := Nat.xor_lt_two_pow ha hb
            rw [Nat.pow_succ] at this
            omega
          clear h2 h3
          go_wp2_with fail
          refine wp_region_held_drew (S := (Box1 w.heap.size (.int .i64 k) (.int .i64 q))) (by kernel_rfl) (box1_of hc.drew) (fun hHeld => ?_)
          replace ht := ht.drew
          replace hc := hc.drew
          refine wpAnyH_take (i := 0) (v := ?_) rfl (by kernel_rfl) (by kernel_rfl) (by kernel_rfl) (fun _ _ _ h => h) (Or.inl ⟨rfl, ?_⟩) hHeld ?_
          rotate_left
          · intro w' hS; obtain ⟨s0, s1⟩ := hS; go_simp <;> with_reducible rfl
          simp only [Act.put, List.getElem_toArray, List.getElem_cons_succ, List.getElem_cons_zero, List.setIfInBounds_toArray, List.set_cons_succ, List.set_cons_zero]
          refine wpAnyH_take (i := 1) (v := ?_) rfl (by kernel_rfl) (by kernel_rfl) (by kernel_rfl) (fun _ _ _ h => h) (Or.inl ⟨rfl, ?_⟩) hHeld ?_
          rotate_left
          · intro w' hS; obtain ⟨s0, s1⟩ := hS; go_simp <;> with_reducible rfl
          simp only [Act.put, List.getElem_toArray, List.getElem_cons_succ, List.getElem_cons_zero, List.setIfInBounds_toArray, List.set_cons_succ, List.set_cons_zero]
          refine wpAnyH_take (i := 2) (v := ?_) rfl (by kernel_rfl) (by kernel_rfl) (by kernel_rfl) (fun _ _ _ h => h) (Or.inl ⟨rfl, ?_⟩) hHeld ?_
          rotate_left
          · intro w' hS; obtain ⟨s0, s1⟩ := hS; go_simp <;> with_reducible rfl
          simp only [Act.put, List.getElem_toArray, List.getElem_cons_succ, List.getElem_cons_zero, List.setIfInBounds_toArray, List.set_cons_succ, List.set_cons_zero]
          refine wpAnyH_take (i := 3) (v := ?_) rfl (by kernel_rfl) (by kernel_rfl) (by kernel_rfl) (fun _ _ _ h => h) (Or.inl ⟨rfl, ?_⟩) hHeld ?_
          rotate_left
          · intro w' hS; obtain ⟨s0, s1⟩ := hS; go_simp <;> with_reducible rfl
          simp only [Act.put, List.getElem_toArray, List.getElem_cons_succ, List.getElem_cons_zero, List.setIfInBounds_toArray, List.set_cons_succ, List.set_cons_zero]
          refine wpAnyH_take (i := 4) (v := ?_) rfl (by kernel_rfl) (by kernel_rfl) (by kernel_rfl) (fun _ _ _ h => h) (Or.inl ⟨rfl, ?_⟩) hHeld ?_
          rotate_left
          · intro w' hS; obtain ⟨s0, s1⟩ := hS; go_simp <;> with_reducible rfl
          simp only [Act.put, List.getElem_toArray, List.getElem_cons_succ, List.getElem_cons_zero, List.setIfInBounds_toArray, List.set_cons_succ, List.set_cons_zero]
          refine wpAnyH_take (i := 5) (v := ?_) rfl (by kernel_rfl) (by kernel_rfl) (by kernel_rfl) (fun _ _ _ h => h) (Or.inl ⟨rfl, ?_⟩) hHeld ?_
          rotate_left
          · intro w' hS; obtain ⟨s0, s1⟩ := hS; go_simp <;> with_reducible rfl
          simp only [Act.put, List.getElem_toArray, List.getElem_cons_succ, List.getElem_cons_zero, List.setIfInBounds_toArray, List.set_cons_succ, List.set_cons_zero]
          refine wpAnyH_take (i := 6) (v := ?_) rfl (by kernel_rfl) (by kernel_rfl) (by kernel_rfl) (fun _ _ _ h => h) (Or.inl ⟨rfl, ?_⟩) hHeld ?_
          rotate_left
          · intro w' hS; obtain ⟨s0, s1⟩ := hS; go_simp <;> with_reducible rfl
          simp only [Act.put, List.getElem_toArray, List.getElem_cons_succ, List.getElem_cons_zero, List.setIfInBounds_toArray, List.set_cons_succ, List.set_cons_zero]
          refine wpAnyH_take (i := 7) (v := ?_) rfl (by kernel_rfl) (by kernel_rfl) (by kernel_rfl) (fun _ _ _ h => h) (Or.inl ⟨rfl, ?_⟩) hHeld ?_
          rotate_left
          · intro w' hS; obtain ⟨s0, s1⟩ := hS; go_simp <;> with_reducible rfl
          simp only [Act.put, List.getElem_toArray, List.getElem_cons_succ, List.getElem_cons_zero, List.setIfInBounds_toArray, List.set_cons_succ, List.set_cons_zero]
          refine wpAnyH_take (i := 8) (v := ?_) rfl (by kernel_rfl) (by kernel_rfl) (by kernel_rfl) (fun _ _ _ h => h) (Or.inl ⟨rfl, ?_⟩) hHeld ?_
          rotate_left
          · intro w' hS; obtain ⟨s0, s1⟩ := hS; go_simp <;> with_reducible rfl
          simp only [Act.put, List.getElem_toArray, List.getElem_cons_succ, List.getElem_cons_zero, List.setIfInBounds_toArray, List.set_cons_succ, List.set_cons_zero]
          refine wpAnyH_take (i := 9) (v := ?_) rfl (by kernel_rfl) (by kernel_rfl) (by kernel_rfl) (fun _ _ _ h => h) (Or.inl ⟨rfl, ?_⟩) hHeld ?_
          rotate_left
          · intro w' hS; obtain ⟨s0, s1⟩ := hS; go_simp <;> with_reducible rfl
          simp only [Act.put, List.getElem_toArray, List.getElem_cons_succ, List.getElem_cons_zero, List.setIfInBounds_toArray, List.set_cons_succ, List.set_cons_zero]
          refine wpAnyH_take (i := 10) (v := ?_) rfl (by kernel_rfl) (by kernel_rfl) (by kernel_rfl) (fun _ _ _ h => h) (Or.inl ⟨rfl, ?_⟩) hHeld ?_
          rotate_left
          · intro w' hS; obtain ⟨s0, s1⟩ := hS; go_simp <;> with_reducible rfl
          simp only [Act.put, List.getElem_toArray, List.getElem_cons_succ, List.getElem_cons_zero, List.setIfInBounds_toArray, List.set_cons_succ, List.set_cons_zero]
          refine wpAnyH_take (i := 13) (v := ?_) rfl (by kernel_rfl) (by kernel_rfl) (by kernel_rfl) (fun _ _ _ h => h) (Or.inl ⟨rfl, ?_⟩) hHeld ?_
          rotate_left
          · intro w' hS; obtain ⟨s0, s1⟩ := hS; go_simp <;> with_reducible rfl
          simp only [Act.put, List.getElem_toArray, List.getElem_cons_succ, List.getElem_cons_zero, List.setIfInBounds_toArray, List.set_cons_succ, List.set_cons_zero]
          refine wpAnyH_take (i := 14) (v := ?_) rfl (by kernel_rfl) (by kernel_rfl) (by kernel_rfl) (fun _ _ _ h => h) (Or.inl ⟨rfl, ?_⟩) hHeld ?_
          rotate_left
          · intro w' hS; obtain ⟨s0, s1⟩ := hS; go_simp <;> with_reducible rfl
          simp only [Act.put, List.getElem_toArray, List.getElem_cons_succ, List.getElem_cons_zero, List.setIfInBounds_toArray, List.set_cons_succ, List.set_cons_zero]
          refine wpAnyH_ready (rs := [11]) (by kernel_rfl) (by simp) (AllReadyH.cons rfl (fun K hK => ?_) AllReadyH.nil)
          go_simp
          refine (cuList_any g _ hg8).mono ?_
          rintro e w1 ⟨E, r, rfl, -, hb⟩
          replace ht := below_then ht hb ht.size
          replace hc := hc.below hb
          clear hb
          refine hK.out _ _ (box1_of hc) (fun hHeld => ?_)
          clear hK K
          try simp only [Act.put, List.getElem_toArray, List.getElem_cons_succ, List.getElem_cons_zero, List.setIfInBounds_toArray, List.set_cons_succ, List.set_cons_zero]
          refine wpAnyH_take (i := 12) (v := ?_) rfl (by kernel_rfl) (by kernel_rfl) (by kernel_rfl) (fun _ _ _ h => h) (Or.inl ⟨rfl, ?_⟩) hHeld ?_
          rotate_left
          · intro w' hS; obtain ⟨s0, s1⟩ := hS; go_simp <;> with_reducible rfl
          simp only [Act.put, List.getElem_toArray, List.getElem_cons_succ, List.getElem_cons_zero, List.setIfInBounds_toArray, List.set_cons_succ, List.set_cons_zero]
          refine wpAnyH_take (i := 15) (v := ?_) rfl (by kernel_rfl) (by kernel_rfl) (by kernel_rfl) (fun _ _ _ h => h) (Or.inl ⟨rfl, ?_⟩) hHeld ?_
          rotate_left
          · intro w' hS; obtain ⟨s0, s1⟩ := hS; go_simp <;> with_reducible rfl
          simp only [Act.put, List.getElem_toArray, List.getElem_cons_succ, List.getElem_cons_zero, List.setIfInBounds_toArray, List.set_cons_succ, List.set_cons_zero]
          refine wpAnyH_take (i := 16) (v := ?_) rfl (by kernel_rfl) (by kernel_rfl) (by kernel_rfl) (fun _ _ _ h => h) (Or.inl ⟨rfl, ?_⟩) hHeld ?_
          rotate_left
          · intro w' hS; obtain ⟨s0, s1⟩ := hS; go_simp <;> with_reducible rfl
          simp only [Act.put, List.getElem_toArray, List.getElem_cons_succ, List.getElem_cons_zero, List.setIfInBounds_toArray, List.set_cons_succ, List.set_cons_zero]
          refine wpAnyH_take (i := 17) (v := ?_) rfl (by kernel_rfl) (by kernel_rfl) (by kernel_rfl) (fun _ _ _ h => h) (Or.inl ⟨rfl, ?_⟩) hHeld ?_
          rotate_left
          · intro w' hS; obtain ⟨s0, s1⟩ := hS; go_simp <;> with_reducible rfl
          simp only [Act.put, List.getElem_toArray, List.getElem_cons_succ, List.getElem_cons_zero, List.setIfInBounds_toArray, List.set_cons_succ, List.set_cons_zero]
          refine wpAnyH_take (i := 18) (v := ?_) rfl (by kernel_rfl) (by kernel_rfl) (by kernel_rfl) (fun _ _ _ h => h) (Or.inl ⟨rfl, ?_⟩) hHeld ?_
          rotate_left
          · intro w' hS; obtain ⟨s0, s1⟩ := hS; go_simp <;> with_reducible rfl
          simp only [Act.put, List.getElem_toArray, List.getElem_cons_succ, List.getElem_cons_zero, List.setIfInBounds_toArray, List.set_cons_succ, List.set_cons_zero]
          refine wpAnyH_take (i := 19) (v := ?_) rfl (by kernel_rfl) (by kernel_rfl) (by kernel_rfl) (fun _ _ _ h => h) (Or.inl ⟨rfl, ?_⟩) hHeld ?_
          rotate_left
          · intro w' hS; obtain ⟨s0, s1⟩ := hS; go_simp <;> with_reducible rfl
          simp only [Act.put, List.getElem_toArray, List.getElem_cons_succ, List.getElem_cons_zero, List.setIfInBounds_toArray, List.set_cons_succ, List.set_cons_zero]
          refine wpAnyH_take (i := 20) (v := ?_) rfl (by kernel_rfl) (by kernel_rfl) (by kernel_rfl) (fun _ _ _ h => h) (Or.inl ⟨rfl, ?_⟩) hHeld ?_
          rotate_left
          · intro w' hS; obtain ⟨s0, s1⟩ := hS; go_simp <;> with_reducible rfl
          simp only [Act.put, List.getElem_toArray, List.getElem_cons_succ, List.getElem_cons_zero, List.setIfInBounds_toArray, List.set_cons_succ, List.set_cons_zero]
          refine wpAnyH_ready (rs := [21]) (by kernel_rfl) (by simp) (AllReadyH.cons rfl (fun K hK => ?_) AllReadyH.nil)
          go_simp
          refine (cuCalm_any k g _ hk).mono ?_
          rintro e w2 ⟨rfl, rfl⟩
          rw [HCA.out]
          refine hK.out _ _ (box1_of hc) (fun hHeld => ?_)
          clear hK K
          try simp only [Act.put, List.getElem_toArray, List.getElem_cons_succ, List.getElem_cons_zero, List.setIfInBounds_toArray, List.set_cons_succ, List.set_cons_zero]
          refine wpAnyH_take (i := 22) (v := ?_) rfl (by kernel_rfl) (by kernel_rfl) (by kernel_rfl) (fun _ _ _ h => h) (Or.inl ⟨rfl, ?_⟩) hHeld ?_
          rotate_left
          · intro w' hS; obtain ⟨s0, s1⟩ := hS; go_simp <;> with_reducible rfl
          simp only [Act.put, List.getElem_toArray, List.getElem_cons_succ, List.getElem_cons_zero, List.setIfInBounds_toArray, List.set_cons_succ, List.set_cons_zero]
          refine wpAnyH_take (i := 23) (v := ?_) rfl (by kernel_rfl) (by kernel_rfl) (by kernel_rfl) (fun _ _ _ h => h) (Or.inl ⟨rfl, ?_⟩) hHeld ?_
          rotate_left
          · intro w' hS; obtain ⟨s0, s1⟩ := hS; go_simp <;> with_reducible rfl
          simp only [Act.put, List.getElem_toArray, List.getElem_cons_succ, List.getElem_cons_zero, List.setIfInBounds_toArray, List.set_cons_succ, List.set_cons_zero]
          refine wpAnyH_done (by kernel_rfl) ?_ _
          clear hHeld
          obtain ⟨c0, c1⟩ : Box1 w.heap.size (.int .i64 k) (.int .i64 q) _ := box1_of hc
          go_wp2_with fail
          rw [HXX.out]
          refine (cuQuiet_any k _ q _ hk HYL.out).mono ?_
          rintro e w5 ⟨rfl, hb⟩
          have ht5 := below_then ht hb ht.size
          go_wp2
          go_ret
          exact ⟨ret_of (by rw [HP.out]; rfl), ht5⟩
    · have hne : (Go.bits .and .i64 (g : Int) (H : Int) != (g : Int)) = true := by rw [bits_and_nat _ _ (by omega) (by omega)]; simp; omega
      have HP := Lib.hid (can_no1 (k := k) (q := q) (x := x) (g := g) (by rw [← HH.out]; exact h1))
      clear h1
      go_wp2_with fail
      refine wp_region_held_drew (S := (Box1 w.heap.size (.int .i64 k) (.int .i64 q))) (by kernel_rfl) (box1_of hc.drew) (fun hHeld => ?_)
      replace ht := ht.drew
      replace hc := hc.drew
      refine wpAnyH_take (i := 0) (v := ?_) rfl (by kernel_rfl) (by kernel_rfl) (by kernel_rfl) (fun _ _ _ h => h) (Or.inl ⟨rfl, ?_⟩) hHeld ?_
      rotate_left
      · intro w' hS; obtain ⟨s0, s1⟩ := hS; go_simp <;> with_reducible rfl
      simp only [Act.put, List.getElem_toArray, List.getElem_cons_succ, List.getElem_cons_zero, List.setIfInBounds_toArray, List.set_cons_succ, List.set_cons_zero]
      refine wpAnyH_take (i := 1) (v := ?_) rfl (by kernel_rfl) (by kernel_rfl) (by kernel_rfl) (fun _ _ _ h => h) (Or.inl ⟨rfl, ?_⟩) hHeld ?_
      rotate_left
      · intro w' hS; obtain ⟨s0, s1⟩ := hS; go_simp <;> with_reducible rfl
      simp only [Act.put, List.getElem_toArray, List.getElem_cons_succ, List.getElem_cons_zero, List.setIfInBounds_toArray, List.set_cons_succ, List.set_cons_zero]
      refine wpAnyH_take (i := 2) (v := ?_) rfl (by kernel_rfl) (by kernel_rfl) (by kernel_rfl) (fun _ _ _ h => h) (Or.inl ⟨rfl, ?_⟩) hHeld ?_
      rotate_left
      · intro w' hS; obtain ⟨s0, s1⟩ := hS; go_simp <;> with_reducible rfl
      simp only [Act.put, List.getElem_toArray, List.getElem_cons_succ, List.getElem_cons_zero, List.setIfInBounds_toArray, List.set_cons_succ, List.set_cons_zero]
      refine wpAnyH_take (i := 3) (v := ?_) rfl (by kernel_rfl) (by kernel_rfl) (by kernel_rfl) (fun _ _ _ h => h) (Or.inl ⟨rfl, ?_⟩) hHeld ?_
      rotate_left
      · intro w' hS; obtain ⟨s0, s1⟩ := hS; go_simp <;> with_reducible rfl
      simp only [Act.put, List.getElem_toArray, List.getElem_cons_succ, List.getElem_cons_zero, List.setIfInBounds_toArray, List.set_cons_succ, List.set_cons_zero]
      refine wpAnyH_take (i := 4) (v := ?_) rfl (by kernel_rfl) (by kernel_rfl) (by kernel_rfl) (fun _ _ _ h => h) (Or.inl ⟨rfl, ?_⟩) hHeld ?_
      rotate_left
      · intro w' hS; obtain ⟨s0, s1⟩ := hS; go_simp <;> with_reducible rfl
      simp only [Act.put, List.getElem_toArray, List.getElem_cons_succ, List.getElem_cons_zero, List.setIfInBounds_toArray, List.set_cons_succ, List.set_cons_zero]
      refine wpAnyH_take (i := 5) (v := ?_) rfl (by kernel_rfl) (by kernel_rfl) (by kernel_rfl) (fun _ _ _ h => h) (Or.inl ⟨rfl, ?_⟩) hHeld ?_
      rotate_left
      · intro w' hS; obtain ⟨s0, s1⟩ := hS; go_simp <;> with_reducible rfl
      simp only [Act.put, List.getElem_toArray, List.getElem_cons_succ, List.getElem_cons_zero, List.setIfInBounds_toArray, List.set_cons_succ, List.set_cons_zero]
      refine wpAnyH_take (i := 6) (v := ?_) rfl (by kernel_rfl) (by kernel_rfl) (by kernel_rfl) (fun _ _ _ h => h) (Or.inl ⟨rfl, ?_⟩) hHeld ?_
      rotate_left
      · intro w' hS; obtain ⟨s0, s1⟩ := hS; go_simp <;> with_reducible rfl
      simp only [Act.put, List.getElem_toArray, List.getElem_cons_succ, List.getElem_cons_zero, List.setIfInBounds_toArray, List.set_cons_succ, List.set_cons_zero]
      refine wpAnyH_take (i := 7) (v := ?_) rfl (by kernel_rfl) (by kernel_rfl) (by kernel_rfl) (fun _ _ _ h => h) (Or.inl ⟨rfl, ?_⟩) hHeld ?_
      rotate_left
      · intro w' hS; obtain ⟨s0, s1⟩ := hS; go_simp <;> with_reducible rfl
      simp only [Act.put, List.getElem_toArray, List.getElem_cons_succ, List.getElem_cons_zero, List.setIfInBounds_toArray, List.set_cons_succ, List.set_cons_zero]
      refine wpAnyH_take (i := 8) (v := ?_) rfl (by kernel_rfl) (by kernel_rfl) (by kernel_rfl) (fun _ _ _ h => h) (Or.inl ⟨rfl, ?_⟩) hHeld ?_
      rotate_left
      · intro w' hS; obtain ⟨s0, s1⟩ := hS; go_simp <;> with_reducible rfl
      simp only [Act.put, List.getElem_toArray, List.getElem_cons_succ, List.getElem_cons_zero, List.setIfInBounds_toArray, List.set_cons_succ, List.set_cons_zero]
      refine wpAnyH_take (i := 9) (v := ?_) rfl (by kernel_rfl) (by kernel_rfl) (by kernel_rfl) (fun _ _ _ h => h) (Or.inl ⟨rfl, ?_⟩) hHeld ?_
      rotate_left
      · intro w' hS; obtain ⟨s0, s1⟩ := hS; go_simp <;> with_reducible rfl
      simp only [Act.put, List.getElem_toArray, List.getElem_cons_succ, List.getElem_cons_zero, List.setIfInBounds_toArray, List.set_cons_succ, List.set_cons_zero]
      refine wpAnyH_take (i := 10) (v := undef) rfl (by kernel_rfl) (by kernel_rfl) (by kernel_rfl) (fun _ _ _ h => h) (Or.inr ⟨by simp [Region.wanted, yielded], rfl⟩) hHeld ?_
      simp only [Act.put, List.getElem_toArray, List.getElem_cons_succ, List.getElem_cons_zero, List.setIfInBounds_toArray, List.set_cons_succ, List.set_cons_zero]
      refine wpAnyH_take (i := 11) (v := undef) rfl (by kernel_rfl) (by kernel_rfl) (by kernel_rfl) (fun _ _ _ h => h) (Or.inr ⟨by simp [Region.wanted, yielded], rfl⟩) hHeld ?_
      simp only [Act.put, List.getElem_toArray, List.getElem_cons_succ, List.getElem_cons_zero, List.setIfInBounds_toArray, List.set_cons_succ, List.set_cons_zero]
      refine wpAnyH_take (i := 12) (v := undef) rfl (by kernel_rfl) (by kernel_rfl) (by kernel_rfl) (fun _ _ _ h => h) (Or.inr ⟨by simp [Region.wanted, yielded], rfl⟩) hHeld ?_
      simp only [Act.put, List.getElem_toArray, List.getElem_cons_succ, List.getElem_cons_zero, List.setIfInBounds_toArray, List.set_cons_succ, List.set_cons_zero]
      refine wpAnyH_take (i := 13) (v := undef) rfl (by kernel_rfl) (by kernel_rfl) (by kernel_rfl) (fun _ _ _ h => h) (Or.inr ⟨by simp [Region.wanted, yielded], rfl⟩) hHeld ?_
      simp only [Act.put, List.getElem_toArray, List.getElem_cons_succ, List.getElem_cons_zero, List.setIfInBounds_toArray, List.set_cons_succ, List.set_cons_zero]
      refine wpAnyH_take (i := 14) (v := undef) rfl (by kernel_rfl) (by kernel_rfl) (by kernel_rfl) (fun _ _ _ h => h) (Or.inr ⟨by simp [Region.wanted, yielded], rfl⟩) hHeld ?_
      simp only [Act.put, List.getElem_toArray, List.getElem_cons_succ, List.getElem_cons_zero, List.setIfInBounds_toArray, List.set_cons_succ, List.set_cons_zero]
      refine wpAnyH_take (i := 15) (v := undef) rfl (by kernel_rfl) (by kernel_rfl) (by kernel_rfl) (fun _ _ _ h => h) (Or.inr ⟨by simp [Region.wanted, yielded], rfl⟩) hHeld ?_
      simp only [Act.put, List.getElem_toArray, List.getElem_cons_succ, List.getElem_cons_zero, List.setIfInBounds_toArray, List.set_cons_succ, List.set_cons_zero]
      refine wpAnyH_take (i := 16) (v := ?_) rfl (by kernel_rfl) (by kernel_rfl) (by kernel_rfl) (fun _ _ _ h => h) (Or.inl ⟨rfl, ?_⟩) hHeld ?_
      rotate_left
      · intro w' hS; obtain ⟨s0, s1⟩ := hS; go_simp <;> with_reducible rfl
      simp only [Act.put, List.getElem_toArray, List.getElem_cons_succ, List.getElem_cons_zero, List.setIfInBounds_toArray, List.set_cons_succ, List.set_cons_zero]
      refine wpAnyH_take (i := 17) (v := ?_) rfl (by kernel_rfl) (by kernel_rfl) (by kernel_rfl) (fun _ _ _ h => h) (Or.inl ⟨rfl, ?_⟩) hHeld ?_
      rotate_left
      · intro w' hS; obtain ⟨s0, s1⟩ := hS; go_simp <;> with_reducible rfl
      simp only [Act.put, List.getElem_toArray, List.getElem_cons_succ, List.getElem_cons_zero, List.setIfInBounds_toArray, List.set_cons_succ, List.set_cons_zero]
      refine wpAnyH_take (i := 18) (v := undef) rfl (by kernel_rfl) (by kernel_rfl) (by kernel_rfl) (fun _ _ _ h => h) (Or.inr ⟨by simp [Region.wanted, yielded], rfl⟩) hHeld ?_
      simp only [Act.put, List.getElem_toArray, List.getElem_cons_succ, List.getElem_cons_zero, List.setIfInBounds_toArray, List.set_cons_succ, List.set_cons_zero]
      refine wpAnyH_take (i := 19) (v := undef) rfl (by kernel_rfl) (by kernel_rfl) (by kernel_rfl) (fun _ _ _ h => h) (Or.inr ⟨by simp [Region.wanted, yielded], rfl⟩) hHeld ?_
      simp only [Act.put, List.getElem_toArray, List.getElem_cons_succ, List.getElem_cons_zero, List.setIfInBounds_toArray, List.set_cons_succ, List.set_cons_zero]
      refine wpAnyH_take (i := 20) (v := undef) rfl (by kernel_rfl) (by kernel_rfl) (by kernel_rfl) (fun _ _ _ h => h) (Or.inr ⟨by simp [Region.wanted, yielded], rfl⟩) hHeld ?_
      simp only [Act.put, List.getElem_toArray, List.getElem_cons_succ, List.getElem_cons_zero, List.setIfInBounds_toArray, List.set_cons_succ, List.set_cons_zero]
      refine wpAnyH_take (i := 21) (v := undef) rfl (by kernel_rfl) (by kernel_rfl) (by kernel_rfl) (fun _ _ _ h => h) (Or.inr ⟨by simp [Region.wanted, yielded], rfl⟩) hHeld ?_
      simp only [Act.put, List.getElem_toArray, List.getElem_cons_succ, List.getElem_cons_zero, List.setIfInBounds_toArray, List.set_cons_succ, List.set_cons_zero]
      refine wpAnyH_take (i := 22) (v := undef) rfl (by kernel_rfl) (by kernel_rfl) (by kernel_rfl) (fun _ _ _ h => h) (Or.inr ⟨by simp [Region.wanted, yielded], rfl⟩) hHeld ?_
      simp only [Act.put, List.getElem_toArray, List.getElem_cons_succ, List.getElem_cons_zero, List.setIfInBounds_toArray, List.set_cons_succ, List.set_cons_zero]
      refine wpAnyH_take (i := 23) (v := ?_) rfl (by kernel_rfl) (by kernel_rfl) (by kernel_rfl) (fun _ _ _ h => h) (Or.inl ⟨rfl, ?_⟩) hHeld ?_
      rotate_left
      · intro w' hS; obtain ⟨s0, s1⟩ := hS; go_simp <;> with_reducible rfl
      simp only [Act.put, List.getElem_toArray, List.getElem_cons_succ, List.getElem_cons_zero, List.setIfInBounds_toArray, List.set_cons_succ, List.set_cons_zero]
      refine wpAnyH_done (by kernel_rfl) ?_ _
      clear hHeld
      go_wp2
      go_ret
      exact ⟨ret_of (by rw [HP.out]; rfl), ht⟩

end Go.Proofs.Ytoedcieofjcgkaa
