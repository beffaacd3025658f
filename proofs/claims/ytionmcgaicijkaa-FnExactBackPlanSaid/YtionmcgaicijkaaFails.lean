/-
  What is proved: contracts of TripThatFails, of the model and of the program. Conditions: the arguments are read as they lie.
-/
import Derived.Test.YtionmcgaicijkaaWalk
namespace Go.Proofs.Ytionmcgaicijkaa
open Go.RowKit

def asked (xs : List Int) (n : Nat) (s : Int) (bs : List Bool) (t : Bool) : Bool := isParty xs s && isState n bs t
noncomputable def failOk (xs : List Int) (n : Nat) (s : Int) (bs : List Bool) (t : Bool) (ls : List (List Int)) : Bool := asked xs n s bs t && (decide (ls.length ≤ 40) && decide (made n s bs t ls ≠ ls.length))
noncomputable def failAt (xs : List Int) (n : Nat) (s : Int) (bs : List Bool) (t : Bool) (ls : List (List Int)) : Int := if failOk xs n s bs t ls then made n s bs t ls else 0
theorem fail_no {xs : List Int} {n : Nat} {s : Int} {bs : List Bool} {t : Bool} {ls : List (List Int)} (h : asked xs n s bs t = false ∨ 40 < ls.length ∨ made n s bs t ls = ls.length) : failOk xs n s bs t ls = false ∧ failAt xs n s bs t ls = 0 := by
  have h0 : failOk xs n s bs t ls = false := by
    rcases h with h | h | h
    · simp [failOk, h]
    · simp [failOk]; omega
    · simp [failOk, h]
  exact ⟨h0, by simp [failAt, h0]⟩
theorem fail_yes {xs : List Int} {n : Nat} {s : Int} {bs : List Bool} {t : Bool} {ls : List (List Int)} (h : asked xs n s bs t = true) (h40 : ls.length ≤ 40) (hm : made n s bs t ls ≠ ls.length) : failOk xs n s bs t ls = true ∧ failAt xs n s bs t ls = made n s bs t ls := by
  have h0 : failOk xs n s bs t ls = true := by simp [failOk, h, h40, hm]
  exact ⟨h0, by simp [failAt, h0]⟩
theorem asked_len {xs : List Int} {n : Nat} {s : Int} {bs : List Bool} {t : Bool} (h : asked xs n s bs t = true) (hx : xs.length = n) : n ≤ 8 ∧ 0 < n ∧ bs.length = n := by
  simp only [asked, Bool.and_eq_true, isState, decide_eq_true_eq] at h
  have h1 := isParty_le h.1
  refine ⟨by omega, ?_, h.2.1⟩
  have h2 := h.1
  simp only [isParty, Bool.and_eq_true] at h2
  have := (within_iff.1 h2.1).1
  omega

/-- What TripThatFails hands back. -/
def FailPost (v : Int) (ok : Bool) (w : World) (e : Ending) (w' : World) : Prop := e = .returned (.tuple #[.int .i64 v, .bool ok]) ∧ Below w.heap.size w w'

set_option maxHeartbeats 1600000 in
theorem specTripThatFails_any (A B D : Option Addr) (n c m d q z : Nat) (xs : List Int) (bs : List Bool) (rs : List RowV) (s : Int) (t : Bool) (w : World) (hA : Holds w A (nums xs)) (hB : Holds w B (bits bs)) (hD : Grid w D rs) (hx : xs.length = n) (hy : bs.length = m) (hz : rs.length = q) (hn : n ≤ 9223372036854775807) (hm : m ≤ 9223372036854775807) (hq : q ≤ 9223372036854775807) :
    Calls Try.prog 35 #[.agg #[.slice A n c, .int .i64 s], .agg #[.slice B m d, .bool t], .slice D q z] w (FailPost (failAt xs n s bs t (rowNums rs)) (failOk xs n s bs t (rowNums rs)) w) := by
  have HX := Lib.hid hx
  have HY := Lib.hid hy
  have HZ := Lib.hid hz
  have HLS := Lib.hid (rowNums_len rs)
  have hA2 := (hA.alloc (.cells #[.slice A n c, .int .i64 s] 33)).alloc (.cells #[.slice B m d, .bool t] 30)
  have hB2 := (hB.alloc (.cells #[.slice A n c, .int .i64 s] 33)).alloc (.cells #[.slice B m d, .bool t] 30)
  have hD2 := (hD.alloc (.cells #[.slice A n c, .int .i64 s] 33)).alloc (.cells #[.slice B m d, .bool t] 30)
  have h0 := (Whole.fresh w 33 #[.slice A n c, .int .i64 s]).alloc (.cells #[.slice B m d, .bool t] 30)
  have h1 := Whole.fresh (w.alloc (.cells #[.slice A n c, .int .i64 s] 33)) 30 #[.slice B m d, .bool t]
  rw [World.size_alloc] at h1
  cases hp : asked xs n s bs t
  · have HP := Lib.hid (show (isParty xs s && isState n bs t) = false from hp)
    have HF := Lib.hid (fail_no (ls := rowNums rs) (.inl hp))
    clear hp hx hy hz
    go_enter Try.func35, Try.ntmps35
    go_wp2_with fail
    refine (paAsked_any A B n c m d xs bs s t _ hA2 hB2 HX.out HY.out hn hm).mono ?_
    rintro e w1 ⟨rfl, hb1⟩
    rw [HP.out]
    go_wp2
    go_ret2
    exact ⟨by rw [HF.out.1, HF.out.2]; rfl, below_then (below2 w _ _) hb1 (by simp; omega)⟩
  · have HP := Lib.hid (show (isParty xs s && isState n bs t) = true from hp)
    have HAS := Lib.hid hp
    obtain ⟨h8, hpos, hbl⟩ := asked_len hp hx
    have HBL := Lib.hid hbl
    have hmn : m = n := by omega
    have HMN := Lib.hid hmn
    clear hp hx hy hz hbl hmn
    by_cases h40 : 40 < q
    · have HF := Lib.hid (fail_no (xs := xs) (n := n) (s := s) (bs := bs) (t := t) (ls := rowNums rs) (.inr (.inl (by have := HLS.out; have := HZ.out; omega))))
      go_enter Try.func35, Try.ntmps35
      go_wp2_with fail
      refine (paAsked_any A B n c m d xs bs s t _ hA2 hB2 HX.out HY.out hn hm).mono ?_
      rintro e w1 ⟨rfl, hb1⟩
      rw [HP.out]
      go_wp2
      go_ret2
      exact ⟨by rw [HF.out.1, HF.out.2]; rfl, below_then (below2 w _ _) hb1 (by simp; omega)⟩
    · have hmle : made n s bs t (rowNums rs) ≤ q := by have := made_le n s (rowNums rs) bs t; have := HLS.out; have := HZ.out; omega
      rcases (inferInstance : Decidable (made n s bs t (rowNums rs) = q)) with hmd | hmd
      all_goals
        have HMD := Lib.hid hmd
        first | (have hmi : ((made n s bs t (rowNums rs) : Int) == (q : Int)) = true := by simp [hmd]) | (have hmi : ((made n s bs t (rowNums rs) : Int) == (q : Int)) = false := by simp; omega)
        clear hmd
        go_enter Try.func35, Try.ntmps35
        go_wp2_with fail
        refine (paAsked_any A B n c m d xs bs s t _ hA2 hB2 HX.out HY.out hn hm).mono ?_
        rintro e w1 ⟨rfl, hb1⟩
        rw [HP.out]
        have ht := below_then (below2 w _ _) hb1 (by simp; omega)
        replace hB2 := hB2.below hb1
        replace hD2 := hD2.below hb1
        obtain ⟨c0, c1, -, -⟩ := (h0.below hb1).two
        obtain ⟨d0, d1, -, -⟩ := (h1.below hb1).two
        clear h0 h1 hb1 hA2
        go_wp2_with fail
        refine (paPlay_any A B D n c m d q z bs rs s t _ hB2 hD2 HY.out HZ.out HMN.out (by have := HMN.out; omega) (by have := HMN.out; omega) hq).mono ?_
        rintro e w2 ⟨A2, c2, rfl, -, hb⟩
        go_wp2
        go_ret2
      · have HF := Lib.hid (fail_yes HAS.out (by have := HLS.out; have := HZ.out; omega) (show made n s bs t (rowNums rs) ≠ (rowNums rs).length by have := HLS.out; have := HZ.out; have := HMD.out; omega))
        exact ⟨by rw [HF.out.1, HF.out.2]; rfl, (below_then ht hb ht.size).alloc (Nat.le_trans ht.size hb.size) _⟩
      · have HF := Lib.hid (fail_no (xs := xs) (n := n) (s := s) (bs := bs) (t := t) (ls := rowNums rs) (.inr (.inr (by have := HLS.out; have := HZ.out; have := HMD.out; omega))))
        exact ⟨by rw [HF.out.1, HF.out.2]; rfl, (below_then ht hb ht.size).alloc (Nat.le_trans ht.size hb.size) _⟩

set_option maxHeartbeats 1600000 in
set_option maxRecDepth 100000 in
theorem implTripThatFails_any (A B D : Option Addr) (n c m d q z : Nat) (xs : List Int) (bs : List Bool) (rs : List RowV) (s : Int) (t : Bool) (w : World) (hA : Holds w A (nums xs)) (hB : Holds w B (bits bs)) (hD : Grid w D rs) (hx : xs.length = n) (hy : bs.length = m) (hz : rs.length = q) (hn : n ≤ 9223372036854775807) (hm : m ≤ 9223372036854775807) (hq : q ≤ 9223372036854775807) :
    Calls Try.prog 36 #[.agg #[.slice A n c, .int .i64 s], .agg #[.slice B m d, .bool t], .slice D q z] w (FailPost (failAt xs n s bs t (rowNums rs)) (failOk xs n s bs t (rowNums rs)) w) := by
  have HX := Lib.hid hx
  have HY := Lib.hid hy
  have HZ := Lib.hid hz
  have HLS := Lib.hid (rowNums_len rs)
  have hA2 := (hA.alloc (.cells #[.slice A n c, .int .i64 s] 33)).alloc (.cells #[.slice B m d, .bool t] 30)
  have hB2 := (hB.alloc (.cells #[.slice A n c, .int .i64 s] 33)).alloc (.cells #[.slice B m d, .bool t] 30)
  have hD2 := (hD.alloc (.cells #[.slice A n c, .int .i64 s] 33)).alloc (.cells #[.slice B m d, .bool t] 30)
  have h0 := (Whole.fresh w 33 #[.slice A n c, .int .i64 s]).alloc (.cells #[.slice B m d, .bool t] 30)
  go_enter Try.func36, Try.ntmps36
  go_wp2_with fail
  refine (partyPlace_any A B n c m d xs bs s t _ hA2 hB2 hx hy hn hm).mono ?_
  rintro e w1 ⟨⟨hp, rfl⟩ | ⟨hp, rfl⟩, hb⟩
  · have HP := Lib.hid hp
    obtain ⟨h8, hpos, hbl⟩ := asked_len (show asked xs n s bs t = true from hp) hx
    have HBL := Lib.hid hbl
    have ht := below_then (below2 w _ _) hb (by simp; omega)
    replace ht := ht.alloc ht.size (.cells (placeCells bs t) 82)
    have hl := (h0.below hb).lt
    obtain ⟨c0, c1, -, -⟩ := (h0.below hb).two
    have hD3 := (hD2.below hb).alloc (.cells (placeCells bs t) 82)
    clear hp hb h0 hA2 hB2 hD2 hx hy hz hbl
    by_cases h40 : 40 < q
    · have HF := Lib.hid (fail_no (xs := xs) (n := n) (s := s) (bs := bs) (t := t) (ls := rowNums rs) (.inr (.inl (by have := HLS.out; have := HZ.out; omega))))
      unfold placeCells at *
      go_wp2
      go_ret2
      exact ⟨by rw [HF.out.1, HF.out.2]; rfl, ht⟩
    · have hmle : made n s bs t (rowNums rs) ≤ q := by have := made_le n s (rowNums rs) bs t; have := HLS.out; have := HZ.out; omega
      rcases (inferInstance : Decidable (made n s bs t (rowNums rs) = q)) with hmd | hmd
      all_goals
        have HMD := Lib.hid hmd
        first | (have hmi : ((made n s bs t (rowNums rs) : Int) == (q : Int)) = true := by simp [hmd]) | (have hmi : ((made n s bs t (rowNums rs) : Int) == (q : Int)) = false := by simp; omega)
        clear hmd
        unfold placeCells
        go_wp2_with fail
        refine (walk_any A D n c q z bs rs s t _ hD3 HBL.out HZ.out h8 (by omega)).mono ?_
        rintro e w2 ⟨T, c2, rfl, -, hb⟩
        replace ht := below_then ht hb ht.size
        clear hb c0 c1 hl
        unfold placeCells
        go_wp2
        go_ret2
      · have HF := Lib.hid (fail_yes (show asked xs n s bs t = true from HP.out) (by have := HLS.out; have := HZ.out; omega) (show made n s bs t (rowNums rs) ≠ (rowNums rs).length by have := HLS.out; have := HZ.out; have := HMD.out; omega))
        exact ⟨by rw [HF.out.1, HF.out.2]; rfl, ht.alloc ht.size _⟩
      · have HF := Lib.hid (fail_no (xs := xs) (n := n) (s := s) (bs := bs) (t := t) (ls := rowNums rs) (.inr (.inr (by have := HLS.out; have := HZ.out; have := HMD.out; omega))))
        exact ⟨by rw [HF.out.1, HF.out.2]; rfl, ht.alloc ht.size _⟩
  · have HF := Lib.hid (fail_no (ls := rowNums rs) (.inl (show asked xs n s bs t = false from hp)))
    have ht := below_then (below2 w _ _) hb (by simp; omega)
    replace ht := ht.alloc ht.size (.cells (placeCells [] false) 82)
    clear hp hb h0 hA2 hB2 hD2 hx hy hz
    unfold placeCells at *
    go_wp2
    go_ret2
    exact ⟨by rw [HF.out.1, HF.out.2]; rfl, ht⟩
theorem specTripThatFails_on (A B D : Option Addr) (n c m d q z : Nat) (xs : List Int) (bs : List Bool) (rs : List RowV) (ls : List (List Int)) (s : Int) (t : Bool) (w : World) (hA : Holds w A (nums xs)) (hB : Holds w B (bits bs)) (hD : Grid w D rs) (he : rowNums rs = ls) (hx : xs.length = n) (hy : bs.length = m) (hz : rs.length = q) (hn : n ≤ 9223372036854775807) (hm : m ≤ 9223372036854775807) (hq : q ≤ 9223372036854775807) :
    Calls Try.prog 35 #[.agg #[.slice A n c, .int .i64 s], .agg #[.slice B m d, .bool t], .slice D q z] w (FailPost (failAt xs n s bs t ls) (failOk xs n s bs t ls) w) := by
  subst he
  exact specTripThatFails_any A B D n c m d q z xs bs rs s t w hA hB hD hx hy hz hn hm hq
theorem implTripThatFails_on (A B D : Option Addr) (n c m d q z : Nat) (xs : List Int) (bs : List Bool) (rs : List RowV) (ls : List (List Int)) (s : Int) (t : Bool) (w : World) (hA : Holds w A (nums xs)) (hB : Holds w B (bits bs)) (hD : Grid w D rs) (he : rowNums rs = ls) (hx : xs.length = n) (hy : bs.length = m) (hz : rs.length = q) (hn : n ≤ 9223372036854775807) (hm : m ≤ 9223372036854775807) (hq : q ≤ 9223372036854775807) :
    Calls Try.prog 36 #[.agg #[.slice A n c, .int .i64 s], .agg #[.slice B m d, .bool t], .slice D q z] w (FailPost (failAt xs n s bs t ls) (failOk xs n s bs t ls) w) := by
  subst he
  exact implTripThatFails_any A B D n c m d q z xs bs rs s t w hA hB hD hx hy hz hn hm hq
end Go.Proofs.Ytionmcgaicijkaa
