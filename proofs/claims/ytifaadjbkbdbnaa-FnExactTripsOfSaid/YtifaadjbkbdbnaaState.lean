/-
  What is proved: contracts of the laws' own helpers for lists of truth values and states: their size, their copy, their comparison. Conditions: the given lists are read as they lie; a copy is of at most 1,048,576 values.
-/
import Derived.Test.YtifaadjbkbdbnaaSzTo
import Derived.BigQuiet
import Derived.Deep.QuietTactic
import Derived.Handy
import Derived.WalkLawsBesides
import Derived.Outline
import Derived.Lib.Hide
namespace Go.Proofs.Ytifaadjbkbdbnaa
open Go.RowKit

set_option maxHeartbeats 400000 in
theorem szBoolS_any (A : Option Addr) (n c : Nat) (l : Int) (w : World) (hn : n ≤ 9223372036854775807) (h0 : 0 ≤ l) (h1 : l ≤ 1048576) :
    Calls Try.prog 67 #[.slice A n c, .int .i64 l] w fun e w' => e = .returned (.int .i64 (if l < n then -1 else l - n)) ∧ w = w' := by
  by_cases h : l < n
  · have h' : l - n < 0 := by omega
    go_enter Try.func67, Try.ntmps67
    go_wp2
    go_ret
    exact ⟨rfl, rfl⟩
  · have h' : ¬ l - n < 0 := by omega
    go_enter Try.func67, Try.ntmps67
    go_wp2
    go_ret
    exact ⟨rfl, rfl⟩

set_option maxHeartbeats 400000 in
theorem szState_any (A : Option Addr) (n c : Nat) (s : Bool) (l : Int) (w : World) (hn : n ≤ 9223372036854775807) (h0 : 0 ≤ l) (h1 : l ≤ 1048576) :
    Calls Try.prog 16 #[.agg #[.slice A n c, .bool s], .int .i64 l] w fun e w' => e = .returned (.int .i64 (if l < n then -1 else l - n)) ∧ Below w.heap.size w w' := by
  by_cases h : l < n
  all_goals
    go_enter Try.func16, Try.ntmps16
    go_wp2_with fail
    refine (szBoolS_any A n c l _ hn h0 h1).mono ?_
    rintro e w' ⟨rfl, rfl⟩
    first | rw [if_pos (by assumption)] | rw [if_neg (by omega)]
    go_wp2
    go_ret
    exact ⟨rfl, (Below.refl _ _).alloc (Nat.le_refl _) _⟩

/-- Are two lists of numbers one and the same? -/
def sameBits (a b : List Bool) : Bool := a == b
theorem sameBits_yes {a b : List Bool} (h : a = b) : sameBits a b = true := by simp [sameBits, h]
theorem sameBits_no {a b : List Bool} (h : a ≠ b) : sameBits a b = false := by simp [sameBits, h]

theorem take_nextB {a b : List Bool} {k : Nat} (ha : k < a.length) (hb : k < b.length) (h : a.take k = b.take k) (he : a[k] = b[k]) : a.take (k + 1) = b.take (k + 1) := by
  rw [List.take_succ_eq_append_getElem ha, List.take_succ_eq_append_getElem hb, h, he]

set_option maxHeartbeats 400000 in
theorem eqBoolS_any (A B : Option Addr) (n m c d : Nat) (xs ys : List Bool) (w : World) (hA : Holds w A (bits xs)) (hB : Holds w B (bits ys)) (hx : xs.length = n) (hy : ys.length = m)
    (hn : n ≤ 9223372036854775807) (hm : m ≤ 9223372036854775807) :
    Calls Try.prog 76 #[.slice A n c, .slice B m d] w fun e w' => e = .returned (.bool (sameBits xs ys)) ∧ ∃ k, w' = w.drewN k := by
  subst hx hy
  by_cases hl : xs.length = ys.length
  · have hl' : ((xs.length : Int) != (ys.length : Int)) = false := by simp [hl]
    have HL := Lib.hid hl
    clear hl
    go_enter Try.func76, Try.ntmps76
    go_wp2
    go_loopw [5] (fun i wr => ∃ k q : Nat, k ≤ xs.length ∧ i = .int .i64 k ∧ wr = w.drewN q ∧ xs.take k = ys.take k) (fun i _ => xs.length - (intOf i).toNat)
    case atStart => exact ⟨0, 0, Nat.zero_le _, rfl, rfl, rfl⟩
    case round =>
      obtain ⟨k, q, hk, rfl, rfl, ht⟩ := hrel
      have HT := Lib.hid ht
      clear ht
      by_cases hlt : k < xs.length
      · have hlt' : k < ys.length := by have := HL.out; omega
        obtain ⟨b, o, rfl, hb, hc⟩ := hA.look (k := k) (by simpa [bits] using hlt)
        obtain ⟨b', o', rfl, hb', hc'⟩ := hB.look (k := k) (by simpa [bits] using hlt')
        simp only [bits, List.getElem_map] at hc hc'
        by_cases he : xs[k] = ys[k]
        · have hne : (!(xs[k] == ys[k])) = false := by simp [he]
          have HE := Lib.hid he
          clear he
          go_wp2
          go_quiet (fail)
          go_wp2
          go_roundw
          case rel => exact ⟨k + 1, _, by omega, by go_num, rfl, take_nextB hlt hlt' HT.out HE.out⟩
          case measure => simp [intOf]; omega
        · have hne : (!(xs[k] == ys[k])) = true := by simp [he]
          have HN := Lib.hid (sameBits_no (fun h : xs = ys => he (by subst h; rfl)))
          clear he
          go_wp2
          go_quiet (fail)
          go_wp2
          go_ret
          exact ⟨by rw [HN.out]; rfl, q + _, World.drewN_drewN _ _ _⟩
      · have h1 := HT.out
        rw [List.take_of_length_le (by omega), List.take_of_length_le (by have := HL.out; omega)] at h1
        have HN := Lib.hid (sameBits_yes h1)
        clear h1
        go_wp2
        go_ret
        exact ⟨by rw [HN.out]; rfl, _, rfl⟩
  · have hl' : ((xs.length : Int) != (ys.length : Int)) = true := by simp; omega
    have HN := Lib.hid (sameBits_no (fun h : xs = ys => hl (by rw [h])))
    clear hl
    go_enter Try.func76, Try.ntmps76
    go_wp2
    go_ret
    exact ⟨by rw [HN.out]; rfl, 0, rfl⟩

/-- What stands in the copy behind k rounds: the first k numbers, zeros behind them. -/
def filledB (xs : List Bool) (k : Nat) : Array Value := (bits (xs.take k ++ List.replicate (xs.length - k) false)).toArray
theorem filledB_done (xs : List Bool) : filledB xs xs.length = (bits xs).toArray := by simp [filledB]
theorem filledB_at (xs : List Bool) {k : Nat} (h : k < xs.length) : (filledB xs k)[k]? = some (.bool false) := by
  simp only [filledB, bits, List.getElem?_toArray, List.getElem?_map]
  rw [List.getElem?_append_right (by simp; omega)]
  simp [List.length_take, Nat.min_eq_left (Nat.le_of_lt h), List.getElem?_replicate]
  omega
theorem filledB_next (xs : List Bool) {k : Nat} (h : k < xs.length) : (filledB xs k).setIfInBounds k (.bool xs[k]) = filledB xs (k + 1) := by
  apply Array.ext_getElem?
  intro j
  have hk : (xs.take k).length = k := by simp; omega
  have hk1 : (xs.take (k + 1)).length = k + 1 := by simp; omega
  rw [Array.getElem?_setIfInBounds]
  simp only [filledB, bits, List.getElem?_toArray, List.getElem?_map, List.size_toArray, List.length_map, List.length_append, hk, List.length_replicate]
  by_cases hj : k = j
  · subst hj
    rw [if_pos rfl, if_pos (by omega), List.getElem?_append_left (by omega)]
    simp [h]
  · rw [if_neg hj]
    by_cases hlt : j < k
    · rw [List.getElem?_append_left (by omega), List.getElem?_append_left (by omega)]
      simp [hlt, Nat.lt_succ_of_lt hlt]
    · rw [List.getElem?_append_right (by omega), List.getElem?_append_right (by omega), hk, hk1]
      simp only [List.getElem?_replicate]
      by_cases hn : j < xs.length
      · rw [if_pos (by omega), if_pos (by omega)]
      · rw [if_neg (by omega), if_neg (by omega)]

theorem made_falses (n : Nat) : madeCells (Value.bool false).cells (n * 1) = (bits (List.replicate n false)).toArray := by
  apply Array.ext_getElem?
  intro j
  simp [madeCells, bits, Value.cells, Nat.mod_one, Array.getElem?_range]
  by_cases h : j < n <;> simp [h]

theorem info_bool : (Try.prog.info? 4).map (fun i => (i.zero, i.size, i.bytes)) = some (some (.bool false), 1, 1) := by kernel_rfl

set_option maxHeartbeats 400000 in
theorem toBoolS_any (A : Option Addr) (n c : Nat) (xs : List Bool) (w : World) (hA : Holds w A (bits xs)) (hx : xs.length = n) (hn : n ≤ 1048576) :
    Calls Try.prog 71 #[.slice A n c] w fun e w' => e = .returned (.slice (some ⟨w.heap.size, 0, none⟩) n n) ∧ Whole w' w.heap.size 4 (bits xs).toArray ∧ Below w.heap.size w w' ∧ w'.heap.size = w.heap.size + 1 := by
  subst hx
  obtain ⟨i0, hi, hz0, hz1, hz2⟩ := info_parts info_bool
  have hmk : ∀ W : World, (Instr.makeSlice 25 (.int .i64 (xs.length : Int)) (.int .i64 (xs.length : Int))).run Try.prog W = .ok (.slice (some ⟨W.heap.size, 0, none⟩) xs.length xs.length) (W.alloc (.cells (filledB xs 0) 4)) := by
    intro W
    have h := run_make (P := Try.prog) W 25 4 i0 _ Try.underlying25 hi hz0 .i64 .i64 xs.length xs.length (by omega) (by omega) (by rw [hz2]; omega) (by omega)
    simp only [Int.toNat_natCast, hz1, made_falses] at h
    rw [h]
    simp [filledB]
  clear hi hz0 hz1 hz2
  go_enter Try.func71, Try.ntmps71
  go_wp2
  have h0 := Whole.fresh w 4 (filledB xs 0)
  have hb0 : Below w.heap.size w (w.alloc (.cells (filledB xs 0) 4)) := (Below.refl _ _).alloc (Nat.le_refl _) _
  go_loopw [4] (fun i wr => ∃ k : Nat, k ≤ xs.length ∧ i = .int .i64 k ∧ Whole wr w.heap.size 4 (filledB xs k) ∧ Below w.heap.size w wr ∧ wr.heap.size = w.heap.size + 1) (fun i _ => xs.length - (intOf i).toNat)
  case atStart => exact ⟨0, Nat.zero_le _, rfl, h0, hb0, by simp⟩
  case round =>
    obtain ⟨k, hk, rfl, hw, hb, hs⟩ := hrel
    clear hmk h0 hb0
    by_cases hlt : k < xs.length
    · obtain ⟨b, o, rfl, hbl, hc⟩ := (hA.below hb).look (k := k) (by simpa [bits] using hlt)
      simp only [bits, List.getElem_map] at hc
      have hcell : wr.cell? ⟨w.heap.size, k, none⟩ = some (.bool false) := (hw.cell k).trans (filledB_at xs hlt)
      have hfr := hw.open_ k
      have hnext := hw.set_ k (.bool xs[k])
      rw [filledB_next xs hlt] at hnext
      have HS := Lib.hid hs
      clear hs
      go_wp2
      go_roundw
      case rel => exact ⟨k + 1, by omega, by go_num, hnext, hb.setCell (Nat.le_refl _) _, by simp [World.setCell]; exact HS.out⟩
      case measure => simp [intOf]; omega
    · have hkn : k = xs.length := by omega
      subst hkn
      rw [filledB_done] at hw
      have HS := Lib.hid hs
      clear hs
      go_wp2
      go_ret
      exact ⟨rfl, hw, hb, HS.out⟩

set_option maxHeartbeats 400000 in
theorem toState_any (A : Option Addr) (n c : Nat) (xs : List Bool) (s : Bool) (w : World) (hA : Holds w A (bits xs)) (hx : xs.length = n) (hn : n ≤ 1048576) :
    Calls Try.prog 19 #[.agg #[.slice A n c, .bool s]] w fun e w' => e = .returned (.agg #[.slice (some ⟨w.heap.size + 1 + 1 + 1, 0, none⟩) n n, .bool s]) ∧ Whole w' (w.heap.size + 1 + 1 + 1) 4 (bits xs).toArray ∧ Below w.heap.size w w' := by
  have HX := Lib.hid hx
  clear hx
  go_enter Try.func19, Try.ntmps19
  go_wp2_with fail
  refine (toBoolS_any A n c xs _ (((hA.alloc _).alloc _).alloc _) HX.out hn).mono ?_
  rintro e w1 ⟨rfl, hw, hb, hs⟩
  obtain ⟨hc, hf⟩ := kept hb
  have HS := Lib.hid hs
  have hz : w.heap.size + 3 < w1.heap.size := by have := HS.out; simp at this; omega
  clear hs
  have hw' : Whole w1 (w.heap.size + 1 + 1 + 1) 4 (bits xs).toArray := by simpa using hw
  have hb' : Below w.heap.size w w1 := below_then (below3 w _ _ _) hb (by simp; omega)
  clear hw
  go_wp2
  refine bodyPost_ret (v := .agg #[.slice (some ⟨w.heap.size + 1 + 1 + 1, 0, none⟩) n n, .bool s]) (by simp [results, Try.results19, go_sem, hc]) rfl ⟨rfl, ?_, ?_⟩
  · exact (((hw'.off (by omega)).off (by omega)).off (by omega)).off (by omega)
  · exact below_set (below_set (below_set (below_set hb' (by omega)) (by omega)) (by omega)) (by omega)

/-- The same, the new row's block told by a letter. -/
theorem toState_own (A : Option Addr) (n c : Nat) (xs : List Bool) (s : Bool) (w : World) (hA : Holds w A (bits xs)) (hx : xs.length = n) (hn : n ≤ 1048576) :
    Calls Try.prog 19 #[.agg #[.slice A n c, .bool s]] w fun e w' => ∃ g, e = .returned (.agg #[.slice (some ⟨g, 0, none⟩) n n, .bool s]) ∧ w.heap.size ≤ g ∧ Whole w' g 4 (bits xs).toArray ∧ Below w.heap.size w w' :=
  (toState_any A n c xs s w hA hx hn).mono fun _ _ ⟨he, hw, hb⟩ => ⟨_, he, by omega, hw, hb⟩

set_option maxHeartbeats 400000 in
theorem eqState_any (A B : Option Addr) (n m c d : Nat) (xs ys : List Bool) (s t : Bool) (w : World) (hA : Holds w A (bits xs)) (hB : Holds w B (bits ys)) (hx : xs.length = n) (hy : ys.length = m)
    (hn : n ≤ 9223372036854775807) (hm : m ≤ 9223372036854775807) :
    Calls Try.prog 23 #[.agg #[.slice A n c, .bool s], .agg #[.slice B m d, .bool t]] w fun e w' => e = .returned (.bool (sameBits xs ys && s == t)) ∧ Below w.heap.size w w' := by
  have HX := Lib.hid hx
  have HY := Lib.hid hy
  clear hx hy
  rcases (inferInstance : Decidable (s = t)) with hst | hst
  all_goals
    have hst1 : (!(s == t)) = !decide (s = t) := by simp [hst]
    simp only [hst, decide_false, decide_true, Bool.not_false, Bool.not_true] at hst1
    cases he : sameBits xs ys
  all_goals
    have HE := Lib.hid he
    clear he
    go_enter Try.func23, Try.ntmps23
    go_wp2_with fail
    refine (eqBoolS_any A B n m c d xs ys _ ((hA.alloc _).alloc _) ((hB.alloc _).alloc _) HX.out HY.out hn hm).mono ?_
    rintro e w1 ⟨rfl, k, rfl⟩
    rw [HE.out]
    go_wp2
    go_ret
    exact ⟨ret_of (by simp_all), below_draws (below2 w _ _) k⟩

/-- Two parties of one reading are the same. -/
theorem eqState_yes (A B : Option Addr) (n c d : Nat) (xs : List Bool) (s : Bool) (w : World) (hA : Holds w A (bits xs)) (hB : Holds w B (bits xs)) (hx : xs.length = n) (hn : n ≤ 9223372036854775807) :
    Calls Try.prog 23 #[.agg #[.slice A n c, .bool s], .agg #[.slice B n d, .bool s]] w fun e w' => e = .returned (.bool true) ∧ Below w.heap.size w w' :=
  (eqState_any A B n n c d xs xs s s w hA hB hx hx hn hn).mono fun _ _ ⟨he, hb⟩ => ⟨by rw [he, sameBits_yes rfl]; simp, hb⟩
end Go.Proofs.Ytifaadjbkbdbnaa
