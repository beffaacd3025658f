/-
  What is proved: plain facts on memory for this seat's walks: a slice that stands for a list of one-cell values, and a block that is known whole; both outlive whatever leaves the blocks below them alone. Conditions: none.
  What is proved: the cells of a small block that is known whole. Conditions: none.
  What is proved: contracts of the laws' own helpers for lists of numbers and parties: their size, their copy, their comparison. Conditions: the given lists are read as they lie; a copy is of at most 1,048,576 numbers.
  What is proved: contracts of the model's and the program's tests of a party. Conditions: the party's times are read as they lie.
  What is proved: plain facts on clues: their cells, lists of them in memory, which are clues of so many people. Conditions: none.
  What is proved: contracts of the least and the greatest number of a list, and of the program's own test of a party. Conditions: the party's times are read as they lie.
  What is proved: contracts of both sides' tests of hidden times. Conditions: the list is read as it lies.
  What is proved: contracts of the program's tests of clues: what A and B may be, the check that raises a clue that is none, the door that catches it. Conditions: the clues are read as they lie, of one to four people.
  What is proved: contracts of the program's check that raises a clue that is none, and of the door that catches it. Conditions: one to four people.
  What is proved: contracts of the door that catches a clue that is raised, and of what stands on it: the program's tests of clues and puzzles. Conditions: the clues are read as they lie.
  What is proved: contracts of the model's tests of clues and puzzles. Conditions: the clues are read as they lie.
  What is proved: contracts of the laws' own helpers for lists of truth values and states: their size, their copy, their comparison. Conditions: the given lists are read as they lie; a copy is of at most 1,048,576 values.
  What is proved: contracts of the laws' marks: a row of the call's own is overwritten by a count, and found so again. Conditions: the row is a new one, open to writes; counts are small.
  What is proved: contracts of the laws' own helpers for lists of lists of numbers: their size, their copy, their comparison. Conditions: the given lists are read as they lie; a copy is of at most 1,048,576 numbers.
  What is proved: contracts of the laws' own helpers for clues and puzzles: their size, their copy, their comparison. Conditions: the given clues are read as they lie; a copy is of at most 1,048,576 clues.
  What is proved: contracts of the laws' own comparison and marks of clues and puzzles. Conditions: the clues are read as they lie; what is marked is a row of the call's own.
  What is proved: the law FnExactIsPuzzle returns true at every argument, and leaves all that was there as it was. Conditions: the arguments are read as they lie.
-/
import Derived.Test.YtcoagbcleccmmaaProg
import Derived.WalkKit
import Derived.Below
import Derived.Laws.OwnMore
import Derived.Laws.MakeOwn
import Derived.Deep.Draws
import Derived.BigQuiet
import Derived.Deep.QuietTactic
import Derived.Handy
import Derived.WalkLawsBesides
import Derived.Outline
import Derived.Lib.Hide
import Derived.Recover
import Derived.Deep.RegionHeld3
set_option linter.unusedSimpArgs false
set_option linter.unusedVariables false
namespace Go.Proofs.Ytcoagbcleccmmaa
open Go.RowKit

/-- The numbers as cells. -/
def nums (zs : List Int) : List Value := zs.map (Value.int .i64)
/-- The truth values as cells. -/
def bits (bs : List Bool) : List Value := bs.map Value.bool

theorem nums_len (zs : List Int) : (nums zs).length = zs.length := by simp [nums]
theorem bits_len (bs : List Bool) : (bits bs).length = bs.length := by simp [bits]

/-- From address A on the world holds the cells xs (nothing is said where xs is empty). -/
def Holds (w : World) (A : Option Addr) (xs : List Value) : Prop :=
  xs = [] ∨ ∃ b o, A = some ⟨b, o, none⟩ ∧ b < w.heap.size ∧ ∀ j u, xs[j]? = some u → w.cell? ⟨b, o + j, none⟩ = some u

/-- Block g is just the cells cs of the element type t, open to writes. -/
def Whole (w : World) (g : Nat) (t : TypeId) (cs : Array Value) : Prop := w.heap[g]? = some (.cells cs t (0, 0))

section
variable {w w' : World} {A : Option Addr} {xs : List Value} {g : Nat} {t : TypeId} {cs : Array Value}

theorem Holds.empty (w : World) (A : Option Addr) : Holds w A [] := .inl rfl

theorem Holds.look {k : Nat} (h : Holds w A xs) (hk : k < xs.length) : ∃ b o, A = some ⟨b, o, none⟩ ∧ b < w.heap.size ∧ w.cell? ⟨b, o + k, none⟩ = some xs[k] := by
  rcases h with rfl | ⟨b, o, hA, hb, hc⟩
  · simp at hk
  · exact ⟨b, o, hA, hb, hc k _ (List.getElem?_eq_getElem hk)⟩

theorem Holds.keep (h : Holds w A xs) (hs : w.heap.size ≤ w'.heap.size) (hk : ∀ p : Addr, p.block < w.heap.size → w'.cell? p = w.cell? p) : Holds w' A xs := by
  rcases h with rfl | ⟨b, o, hA, hb, hc⟩
  · exact .inl rfl
  · exact .inr ⟨b, o, hA, by omega, fun j u hu => (hk ⟨b, o + j, none⟩ hb).trans (hc j u hu)⟩

theorem Holds.below (h : Holds w A xs) (hb : Below w.heap.size w w') : Holds w' A xs := h.keep hb.size fun _ hp => hb.cell hp
theorem Holds.drew (h : Holds w A xs) : Holds w.drew A xs := h
theorem Holds.alloc (h : Holds w A xs) (o : Obj) : Holds (w.alloc o) A xs := h.keep (by simp) fun p hp => World.cell?_alloc_lt w o p hp

theorem Whole.lt (h : Whole w g t cs) : g < w.heap.size := by
  rcases Nat.lt_or_ge g w.heap.size with hl | hl
  · exact hl
  · unfold Whole at h; rw [Array.getElem?_eq_none hl] at h; cases h
theorem Whole.cell (h : Whole w g t cs) (i : Nat) : w.cell? ⟨g, i, none⟩ = cs[i]? := by
  unfold Whole at h
  simp [World.cell?, h]
theorem Whole.open_ (h : Whole w g t cs) (i : Nat) : w.frozen? ⟨g, i, none⟩ = false := by
  unfold Whole at h
  simp [World.frozen?, h]
theorem Whole.below (h : Whole w g t cs) (hb : Below w.heap.size w w') : Whole w' g t cs := (hb.block g h.lt).trans h
theorem Whole.below' {B : Nat} (h : Whole w g t cs) (hb : Below B w w') (hg : g < B) : Whole w' g t cs := (hb.block g hg).trans h
theorem Whole.drew (h : Whole w g t cs) : Whole w.drew g t cs := h
theorem Whole.alloc (h : Whole w g t cs) (o : Obj) : Whole (w.alloc o) g t cs := (Below.heap_alloc w o g h.lt).trans h
theorem Whole.far (h : Whole w g t cs) {p : Addr} (hp : g ≠ p.block) (u : Value) : Whole (w.setCell p u) g t cs := (Below.heap_setCell w p u g hp).trans h
theorem Whole.set_ (h : Whole w g t cs) (i : Nat) (u : Value) : Whole (w.setCell ⟨g, i, none⟩ u) g t (cs.setIfInBounds i u) := by
  unfold Whole at h ⊢
  simp [World.setCell, Array.getElem?_modify, h]
theorem Whole.fresh (w : World) (t : TypeId) (cs : Array Value) : Whole (w.alloc (.cells cs t)) w.heap.size t cs := by
  unfold Whole World.alloc
  simp
theorem Whole.holds (h : Whole w g t cs) : Holds w (some ⟨g, 0, none⟩) cs.toList :=
  .inr ⟨g, 0, rfl, h.lt, fun j u hu => by rw [Nat.zero_add, h.cell j]; simpa using hu⟩
end

/-- Behind a call that leaves all that was there alone: the old cells and the old marks, as two rules for the walk. -/
theorem kept {w w' : World} (hb : Below w.heap.size w w') :
    (∀ b o, b < w.heap.size → w'.cell? ⟨b, o, none⟩ = w.cell? ⟨b, o, none⟩) ∧ (∀ b o, b < w.heap.size → w'.frozen? ⟨b, o, none⟩ = w.frozen? ⟨b, o, none⟩) :=
  ⟨fun b o h => hb.cell (p := ⟨b, o, none⟩) h, fun b o h => hb.frozen (p := ⟨b, o, none⟩) h⟩

/-- The same three words with the block's number written out, for omega. -/
theorem Whole.off {w : World} {g b o : Nat} {t : TypeId} {cs : Array Value} {u : Value} (h : Whole w g t cs) (hne : g ≠ b) : Whole (w.setCell ⟨b, o, none⟩ u) g t cs := h.far (p := ⟨b, o, none⟩) hne u
theorem below_set {B b o : Nat} {a w : World} {u : Value} (h : Below B a w) (hb : B ≤ b) : Below B a (w.setCell ⟨b, o, none⟩ u) := h.setCell (p := ⟨b, o, none⟩) hb u
theorem below1 (w : World) (x : Obj) : Below w.heap.size w (w.alloc x) := (Below.refl _ _).alloc (Nat.le_refl _) x
theorem below2 (w : World) (x y : Obj) : Below w.heap.size w ((w.alloc x).alloc y) := (below1 w x).alloc (by simp) y
theorem below3 (w : World) (x y z : Obj) : Below w.heap.size w (((w.alloc x).alloc y).alloc z) := (below2 w x y).alloc (by simp; omega) z
theorem below4 (w : World) (x y z u : Obj) : Below w.heap.size w ((((w.alloc x).alloc y).alloc z).alloc u) := (below3 w x y z).alloc (by simp; omega) u
theorem below_then {a b c : World} {B : Nat} (h : Below B a b) (k : Below b.heap.size b c) (hB : B ≤ b.heap.size) : Below B a c := h.trans (k.mono hB)

theorem below_draws {B : Nat} {a w : World} (h : Below B a w) (n : Nat) : Below B a (w.drewN n) := ⟨h.os, h.tape, h.output, h.size, h.block⟩

/-- The cells and marks of a block of two cells. -/
theorem Whole.two {w : World} {g : Nat} {t : TypeId} {a b : Value} (h : Whole w g t #[a, b]) :
    w.cell? ⟨g, 0, none⟩ = some a ∧ w.cell? ⟨g, 1, none⟩ = some b ∧ w.frozen? ⟨g, 0, none⟩ = false ∧ w.frozen? ⟨g, 1, none⟩ = false :=
  ⟨(h.cell 0).trans rfl, (h.cell 1).trans rfl, h.open_ 0, h.open_ 1⟩

theorem ret_of {v u : Value} (h : v = u) : Ending.returned v = .returned u := by rw [h]
end Go.Proofs.Ytcoagbcleccmmaa

namespace Go.Proofs.Ytcoagbcleccmmaa
open Go.RowKit

theorem Whole.cells1 {w : World} {g : Nat} {t : TypeId} {a : Value} (h : Whole w g t #[a]) : w.cell? ⟨g, 0, none⟩ = some a := h.cell 0
theorem Whole.cells2 {w : World} {g : Nat} {t : TypeId} {a b : Value} (h : Whole w g t #[a, b]) : w.cell? ⟨g, 0, none⟩ = some a ∧ w.cell? ⟨g, 1, none⟩ = some b := ⟨h.cell 0, h.cell 1⟩
theorem Whole.cells3 {w : World} {g : Nat} {t : TypeId} {a b c : Value} (h : Whole w g t #[a, b, c]) : w.cell? ⟨g, 0, none⟩ = some a ∧ w.cell? ⟨g, 1, none⟩ = some b ∧ w.cell? ⟨g, 2, none⟩ = some c := ⟨h.cell 0, h.cell 1, h.cell 2⟩
end Go.Proofs.Ytcoagbcleccmmaa

namespace Go.Proofs.Ytcoagbcleccmmaa
open Go.RowKit

/-- Are two lists of numbers one and the same? -/
def sameInts (a b : List Int) : Bool := a == b
theorem sameInts_yes {a b : List Int} (h : a = b) : sameInts a b = true := by simp [sameInts, h]
theorem sameInts_no {a b : List Int} (h : a ≠ b) : sameInts a b = false := by simp [sameInts, h]

theorem take_next {a b : List Int} {k : Nat} (ha : k < a.length) (hb : k < b.length) (h : a.take k = b.take k) (he : a[k] = b[k]) : a.take (k + 1) = b.take (k + 1) := by
  rw [List.take_succ_eq_append_getElem ha, List.take_succ_eq_append_getElem hb, h, he]

set_option maxHeartbeats 400000 in
theorem eqIntS_any (A B : Option Addr) (n m c d : Nat) (xs ys : List Int) (w : World) (hA : Holds w A (nums xs)) (hB : Holds w B (nums ys)) (hx : xs.length = n) (hy : ys.length = m)
    (hn : n ≤ 9223372036854775807) (hm : m ≤ 9223372036854775807) :
    Calls Try.prog 26 #[.slice A n c, .slice B m d] w fun e w' => e = .returned (.bool (sameInts xs ys)) ∧ ∃ k, w' = w.drewN k := by
  subst hx hy
  by_cases hl : xs.length = ys.length
  · have hl' : ((xs.length : Int) != (ys.length : Int)) = false := by simp [hl]
    have HL := Lib.hid hl
    clear hl
    go_enter Try.func26, Try.ntmps26
    go_wp2
    go_loopw [5] (fun i wr => ∃ k q : Nat, k ≤ xs.length ∧ i = .int .i64 k ∧ wr = w.drewN q ∧ xs.take k = ys.take k) (fun i _ => xs.length - (intOf i).toNat)
    case atStart => exact ⟨0, 0, Nat.zero_le _, rfl, rfl, rfl⟩
    case round =>
      obtain ⟨k, q, hk, rfl, rfl, ht⟩ := hrel
      have HT := Lib.hid ht
      clear ht
      by_cases hlt : k < xs.length
      · have hlt' : k < ys.length := by have := HL.out; omega
        obtain ⟨b, o, rfl, hb, hc⟩ := hA.look (k := k) (by simpa [nums] using hlt)
        obtain ⟨b', o', rfl, hb', hc'⟩ := hB.look (k := k) (by simpa [nums] using hlt')
        simp only [nums, List.getElem_map] at hc hc'
        by_cases he : xs[k] = ys[k]
        · have hne : (xs[k] != ys[k]) = false := by simp [he]
          have HE := Lib.hid he
          clear he
          go_wp2
          go_quiet (fail)
          go_wp2
          go_roundw
          case rel => exact ⟨k + 1, _, by omega, by go_num, rfl, take_next hlt hlt' HT.out HE.out⟩
          case measure => simp [intOf]; omega
        · have hne : (xs[k] != ys[k]) = true := by simp [he]
          have HN := Lib.hid (sameInts_no (fun h : xs = ys => he (by subst h; rfl)))
          clear he
          go_wp2
          go_quiet (fail)
          go_wp2
          go_ret
          exact ⟨by rw [HN.out]; rfl, q + _, World.drewN_drewN _ _ _⟩
      · have h1 := HT.out
        rw [List.take_of_length_le (by omega), List.take_of_length_le (by have := HL.out; omega)] at h1
        have HN := Lib.hid (sameInts_yes h1)
        clear h1
        go_wp2
        go_ret
        exact ⟨by rw [HN.out]; rfl, _, rfl⟩
  · have hl' : ((xs.length : Int) != (ys.length : Int)) = true := by simp; omega
    have HN := Lib.hid (sameInts_no (fun h : xs = ys => hl (by rw [h])))
    clear hl
    go_enter Try.func26, Try.ntmps26
    go_wp2
    go_ret
    exact ⟨by rw [HN.out]; rfl, 0, rfl⟩

/-- What stands in the copy behind k rounds: the first k numbers, zeros behind them. -/
def filled (xs : List Int) (k : Nat) : Array Value := (nums (xs.take k ++ List.replicate (xs.length - k) 0)).toArray
theorem filled_done (xs : List Int) : filled xs xs.length = (nums xs).toArray := by simp [filled]
theorem filled_at (xs : List Int) {k : Nat} (h : k < xs.length) : (filled xs k)[k]? = some (.int .i64 0) := by
  simp only [filled, nums, List.getElem?_toArray, List.getElem?_map]
  rw [List.getElem?_append_right (by simp; omega)]
  simp [List.length_take, Nat.min_eq_left (Nat.le_of_lt h), List.getElem?_replicate]
  omega
theorem filled_next (xs : List Int) {k : Nat} (h : k < xs.length) : (filled xs k).setIfInBounds k (.int .i64 xs[k]) = filled xs (k + 1) := by
  apply Array.ext_getElem?
  intro j
  have hk : (xs.take k).length = k := by simp; omega
  have hk1 : (xs.take (k + 1)).length = k + 1 := by simp; omega
  rw [Array.getElem?_setIfInBounds]
  simp only [filled, nums, List.getElem?_toArray, List.getElem?_map, List.size_toArray, List.length_map, List.length_append, hk, List.length_replicate]
  by_cases hj : k = j
  · subst hj
    rw [if_pos rfl, if_pos (by omega), List.getElem?_append_left (by omega)]
    simp [h]
  · rw [if_neg hj]
    by_cases hlt : j < k
    · rw [List.getElem?_append_left (by omega), List.getElem?_append_left (by omega)]
      simp [hlt, Nat.lt_succ_of_lt hlt]
    · rw [List.getElem?_append_right (by omega), List.getElem?_append_right (by omega), hk, hk1]
      simp only [List.getElem?_replicate]
      by_cases hn : j < xs.length
      · rw [if_pos (by omega), if_pos (by omega)]
      · rw [if_neg (by omega), if_neg (by omega)]

theorem made_zeros (n : Nat) : madeCells (Value.int .i64 0).cells (n * 1) = (nums (List.replicate n 0)).toArray := by
  apply Array.ext_getElem?
  intro j
  simp [madeCells, nums, Value.cells, Nat.mod_one, Array.getElem?_range]
  by_cases h : j < n <;> simp [h]

theorem info_int : (Try.prog.info? 3).map (fun i => (i.zero, i.size, i.bytes)) = some (some (.int .i64 0), 1, 8) := by kernel_rfl

set_option maxHeartbeats 400000 in
theorem toIntS_any (A : Option Addr) (n c : Nat) (xs : List Int) (w : World) (hA : Holds w A (nums xs)) (hx : xs.length = n) (hn : n ≤ 1048576) :
    Calls Try.prog 24 #[.slice A n c] w fun e w' => e = .returned (.slice (some ⟨w.heap.size, 0, none⟩) n n) ∧ Whole w' w.heap.size 3 (nums xs).toArray ∧ Below w.heap.size w w' ∧ w'.heap.size = w.heap.size + 1 := by
  subst hx
  obtain ⟨i0, hi, hz0, hz1, hz2⟩ := info_parts info_int
  have hmk : ∀ W : World, (Instr.makeSlice 39 (.int .i64 (xs.length : Int)) (.int .i64 (xs.length : Int))).run Try.prog W = .ok (.slice (some ⟨W.heap.size, 0, none⟩) xs.length xs.length) (W.alloc (.cells (filled xs 0) 3)) := by
    intro W
    have h := run_make (P := Try.prog) W 39 3 i0 _ Try.underlying39 hi hz0 .i64 .i64 xs.length xs.length (by omega) (by omega) (by rw [hz2]; omega) (by omega)
    simp only [Int.toNat_natCast, hz1, made_zeros] at h
    rw [h]
    simp [filled]
  clear hi hz0 hz1 hz2
  go_enter Try.func24, Try.ntmps24
  go_wp2
  have h0 := Whole.fresh w 3 (filled xs 0)
  have hb0 : Below w.heap.size w (w.alloc (.cells (filled xs 0) 3)) := (Below.refl _ _).alloc (Nat.le_refl _) _
  go_loopw [4] (fun i wr => ∃ k : Nat, k ≤ xs.length ∧ i = .int .i64 k ∧ Whole wr w.heap.size 3 (filled xs k) ∧ Below w.heap.size w wr ∧ wr.heap.size = w.heap.size + 1) (fun i _ => xs.length - (intOf i).toNat)
  case atStart => exact ⟨0, Nat.zero_le _, rfl, h0, hb0, by simp⟩
  case round =>
    obtain ⟨k, hk, rfl, hw, hb, hs⟩ := hrel
    clear hmk h0 hb0
    by_cases hlt : k < xs.length
    · obtain ⟨b, o, rfl, hbl, hc⟩ := (hA.below hb).look (k := k) (by simpa [nums] using hlt)
      simp only [nums, List.getElem_map] at hc
      have hcell : wr.cell? ⟨w.heap.size, k, none⟩ = some (.int .i64 0) := (hw.cell k).trans (filled_at xs hlt)
      have hfr := hw.open_ k
      have hnext := hw.set_ k (.int .i64 xs[k])
      rw [filled_next xs hlt] at hnext
      have HS := Lib.hid hs
      clear hs
      go_wp2
      go_roundw
      case rel => exact ⟨k + 1, by omega, by go_num, hnext, hb.setCell (Nat.le_refl _) _, by simp [World.setCell]; exact HS.out⟩
      case measure => simp [intOf]; omega
    · have hkn : k = xs.length := by omega
      subst hkn
      rw [filled_done] at hw
      have HS := Lib.hid hs
      clear hs
      go_wp2
      go_ret
      exact ⟨rfl, hw, hb, HS.out⟩

/-- The same, the new row's block told by a letter. -/
theorem toIntS_own (A : Option Addr) (n c : Nat) (xs : List Int) (w : World) (hA : Holds w A (nums xs)) (hx : xs.length = n) (hn : n ≤ 1048576) :
    Calls Try.prog 24 #[.slice A n c] w fun e w' => ∃ g, e = .returned (.slice (some ⟨g, 0, none⟩) n n) ∧ w.heap.size ≤ g ∧ Whole w' g 3 (nums xs).toArray ∧ Below w.heap.size w w' :=
  (toIntS_any A n c xs w hA hx hn).mono fun _ _ ⟨he, hw, hb, _⟩ => ⟨_, he, Nat.le_refl _, hw, hb⟩

end Go.Proofs.Ytcoagbcleccmmaa

namespace Go.Proofs.Ytcoagbcleccmmaa
open Go.RowKit

/-- Does a number lie within bounds? -/
def within (n lo hi : Int) : Bool := decide (lo ≤ n ∧ n ≤ hi)
theorem within_yes {n lo hi : Int} (h1 : lo ≤ n) (h2 : n ≤ hi) : within n lo hi = true := by simp [within, h1, h2]
theorem within_no {n lo hi : Int} (h : n < lo ∨ hi < n) : within n lo hi = false := by simp [within]; omega
theorem within_iff {n lo hi : Int} : within n lo hi = true ↔ lo ≤ n ∧ n ≤ hi := by simp [within]
theorem within_false {n lo hi : Int} (h : within n lo hi = false) : n < lo ∨ hi < n := by simp [within] at h; omega

set_option maxHeartbeats 400000 in
theorem l1In_any (n lo hi : Int) (w : World) :
    Calls Try.prog 70 #[.int .i64 n, .int .i64 lo, .int .i64 hi] w fun e w' => e = .returned (.bool (within n lo hi)) ∧ w = w' := by
  by_cases h1 : lo ≤ n
  · by_cases h2 : n ≤ hi
    · have HW := Lib.hid (within_yes h1 h2)
      go_enter Try.func70, Try.ntmps70
      go_wp2
      go_ret
      exact ⟨ret_of (by rw [HW.out]; rfl), rfl⟩
    · have HW := Lib.hid (within_no (lo := lo) (.inr (Int.not_le.1 h2)))
      go_enter Try.func70, Try.ntmps70
      go_wp2
      go_ret
      exact ⟨ret_of (by rw [HW.out]; rfl), rfl⟩
  · have HW := Lib.hid (within_no (hi := hi) (.inl (Int.not_le.1 h1)))
    go_enter Try.func70, Try.ntmps70
    go_wp2
    go_ret
    exact ⟨ret_of (by rw [HW.out]; rfl), rfl⟩

/-- Do all numbers lie within bounds? -/
def allIn (xs : List Int) (lo hi : Int) : Bool := xs.all fun x => within x lo hi
theorem allIn_no {xs : List Int} {lo hi : Int} {k : Nat} (h : k < xs.length) (hw : within xs[k] lo hi = false) : allIn xs lo hi = false := by
  rw [allIn, List.all_eq_false]
  exact ⟨xs[k], List.getElem_mem h, by simp [hw]⟩
theorem allIn_yes {xs : List Int} {lo hi : Int} (h : ∀ k (hk : k < xs.length), within xs[k] lo hi = true) : allIn xs lo hi = true := by
  rw [allIn, List.all_eq_true]
  intro x hx
  obtain ⟨k, hk, rfl⟩ := List.getElem_of_mem hx
  exact h k hk

/-- All of the first k numbers lie within the bounds. -/
def SoFar (xs : List Int) (lo hi : Int) (k : Nat) : Prop := ∀ j (h : j < xs.length), j < k → within xs[j] lo hi = true

set_option maxHeartbeats 400000 in
theorem l1All_any (A : Option Addr) (n c : Nat) (xs : List Int) (lo hi : Int) (w : World) (hA : Holds w A (nums xs)) (hx : xs.length = n) (hn : n ≤ 9223372036854775807) :
    Calls Try.prog 78 #[.slice A n c, .int .i64 lo, .int .i64 hi] w fun e w' => e = .returned (.bool (allIn xs lo hi)) ∧ w = w' := by
  subst hx
  go_enter Try.func78, Try.ntmps78
  go_wp2
  go_loop [11] (fun i => ∃ k : Nat, k ≤ xs.length ∧ i = .int .i64 k ∧ SoFar xs lo hi k) (fun i => xs.length - (intOf i).toNat)
  case atStart => exact ⟨0, Nat.zero_le _, rfl, fun j _ hj => absurd hj (by omega)⟩
  case round =>
    obtain ⟨k, hk, rfl, hs⟩ := hrel
    by_cases hlt : k < xs.length
    · obtain ⟨b, o, rfl, hb, hc⟩ := hA.look (k := k) (by simpa [nums] using hlt)
      simp only [nums, List.getElem_map] at hc
      cases hw : within xs[k] lo hi
      · have HN := Lib.hid (allIn_no hlt hw)
        have HW := Lib.hid hw
        clear hw
        go_wp2_with (go_at_call 70; refine (l1In_any _ _ _ _).mono ?_; rintro e w' ⟨rfl, rfl⟩; rw [HW.out])
        go_ret
        exact ⟨ret_of (by rw [HN.out]; rfl), rfl⟩
      · have HW := Lib.hid hw
        clear hw
        go_wp2_with (go_at_call 70; refine (l1In_any _ _ _ _).mono ?_; rintro e w' ⟨rfl, rfl⟩; rw [HW.out])
        go_round
        case rel => exact ⟨k + 1, by omega, by go_num, fun j h hj => (Nat.lt_succ_iff_lt_or_eq.1 hj).elim (hs j h) (fun e => by subst e; exact HW.out)⟩
        case measure => simp [intOf]; omega
    · have HN := Lib.hid (allIn_yes (fun j h => hs j h (by omega)))
      go_wp2
      go_ret
      exact ⟨ret_of (by rw [HN.out]; rfl), rfl⟩

/-- A party, told in plain words: up to eight people with times up to 1000, up to three seats. -/
def isParty (xs : List Int) (s : Int) : Bool := within xs.length 1 8 && (allIn xs 1 1000 && within s 1 3)

end Go.Proofs.Ytcoagbcleccmmaa

namespace Go.Proofs.Ytcoagbcleccmmaa
open Go.RowKit

/-- A clue: its kind, A and B. -/
abbrev Cl := Int × Int × Int
def clC (c : Cl) : Array Value := #[.int .i64 c.1, .int .i64 c.2.1, .int .i64 c.2.2]
def clsC (cs : List Cl) : List Value := cs.flatMap fun c => (clC c).toList
theorem clsC_app (a b : List Cl) : clsC (a ++ b) = clsC a ++ clsC b := List.flatMap_append
theorem clsC_len (cs : List Cl) : (clsC cs).length = cs.length * 3 := by
  induction cs with
  | nil => rfl
  | cons c cs ih =>
    simp only [clsC, List.flatMap_cons, List.length_append] at ih ⊢
    rw [ih, List.length_cons]
    show 3 + _ = _
    omega
theorem clsC_one (cs : List Cl) : ∀ u ∈ clsC cs, u.oneCell' = true := by
  intro u hu
  simp only [clsC, List.mem_flatMap, clC, List.mem_cons, List.not_mem_nil, or_false] at hu
  obtain ⟨t, -, rfl | rfl | rfl⟩ := hu <;> rfl
theorem clsC_at {cs : List Cl} {k j : Nat} (hk : k < cs.length) (hj : j < 3) : (clsC cs)[k * 3 + j]? = (clC cs[k])[j]? := by
  induction cs generalizing k with
  | nil => simp at hk
  | cons c cs ih =>
    have hc : clsC (c :: cs) = (clC c).toList ++ clsC cs := rfl
    rw [hc]
    cases k with
    | zero =>
      rw [List.getElem?_append_left (by show 0 * 3 + j < 3; omega)]
      simp
    | succ k =>
      rw [List.getElem?_append_right (by show 3 ≤ _; omega)]
      have e : (k + 1) * 3 + j - (clC c).toList.length = k * 3 + j := by show (k + 1) * 3 + j - 3 = _; omega
      rw [e, ih (by simpa using hk)]
      simp
/-- The cells of the k-th clue of a list that lies from o on. -/
theorem cl_row {w : World} {b o : Nat} {cs : List Cl} {k : Nat} (h : ∀ j u, (clsC cs)[j]? = some u → w.cell? ⟨b, o + j, none⟩ = some u) (hk : k < cs.length) :
    w.cell? ⟨b, o + k * 3, none⟩ = some (.int .i64 cs[k].1) ∧ w.cell? ⟨b, o + k * 3 + 1, none⟩ = some (.int .i64 cs[k].2.1) ∧ w.cell? ⟨b, o + k * 3 + 2, none⟩ = some (.int .i64 cs[k].2.2) :=
  ⟨h (k * 3 + 0) _ (clsC_at hk (by omega)), h (k * 3 + 1) _ (clsC_at hk (by omega)), h (k * 3 + 2) _ (clsC_at hk (by omega))⟩
/-- Where a list of clues that is not empty lies. -/
theorem cls_look {w : World} {A : Option Addr} {cs : List Cl} (h : Holds w A (clsC cs)) {k : Nat} (hk : k < cs.length) :
    ∃ b o, A = some ⟨b, o, none⟩ ∧ b < w.heap.size ∧ w.cell? ⟨b, o + k * 3, none⟩ = some (.int .i64 cs[k].1) ∧ w.cell? ⟨b, o + k * 3 + 1, none⟩ = some (.int .i64 cs[k].2.1) ∧ w.cell? ⟨b, o + k * 3 + 2, none⟩ = some (.int .i64 cs[k].2.2) := by
  rcases h with h | ⟨b, o, hA, hb, hc⟩
  · have := clsC_len cs; rw [h] at this; simp at this; omega
  · exact ⟨b, o, hA, hb, cl_row hc hk⟩

/-- Is it a clue of times of p people? -/
def clOk (p : Int) (c : Cl) : Bool :=
  if c.1 = 0 then within c.2.1 0 (p - 1) && within c.2.2 1 6
  else if c.1 = 4 then within c.2.1 0 (p - 1) && within c.2.2 0 5
  else if c.1 = 1 then within c.2.1 1 24 && within c.2.2 0 0
  else if c.1 = 2 then within c.2.1 1 100 && within c.2.2 0 0
  else if c.1 = 3 then within c.2.1 1 100 && within c.2.2 0 0
  else if c.1 = 5 then within c.2.1 0 p && within c.2.2 0 0
  else false
/-- Is it a puzzle? -/
def pzOk (p : Int) (cs : List Cl) : Bool := within p 1 4 && (decide (cs.length ≤ 6) && cs.all (clOk p))
theorem clOk0 {p a b : Int} : clOk p (0, a, b) = (within a 0 (p - 1) && within b 1 6) := rfl
theorem clOk4 {p a b : Int} : clOk p (4, a, b) = (within a 0 (p - 1) && within b 0 5) := rfl
theorem clOk1 {p a b : Int} : clOk p (1, a, b) = (within a 1 24 && within b 0 0) := rfl
theorem clOk2 {p a b : Int} : clOk p (2, a, b) = (within a 1 100 && within b 0 0) := rfl
theorem clOk3 {p a b : Int} : clOk p (3, a, b) = (within a 1 100 && within b 0 0) := rfl
theorem clOk5 {p a b : Int} : clOk p (5, a, b) = (within a 0 p && within b 0 0) := rfl
theorem clOk_no {p k a b : Int} (h0 : k ≠ 0) (h1 : k ≠ 1) (h2 : k ≠ 2) (h3 : k ≠ 3) (h4 : k ≠ 4) (h5 : k ≠ 5) : clOk p (k, a, b) = false := by
  simp [clOk, h0, h1, h2, h3, h4, h5]
theorem clOk_b {p k a b : Int} (h0 : k ≠ 0) (h4 : k ≠ 4) (h : b ≠ 0) : clOk p (k, a, b) = false := by
  have hb : within b 0 0 = false := within_no (by omega)
  simp [clOk, h0, h4, hb]
theorem within00 {b : Int} : within b 0 0 = decide (b = 0) := by
  simp only [within]; congr 1; exact propext ⟨fun h => by omega, fun h => by omega⟩
theorem pzOk_people {p : Int} {cs : List Cl} (h : within p 1 4 = false) : pzOk p cs = false := by simp [pzOk, h]
theorem pzOk_long {p : Int} {cs : List Cl} (h : 6 < cs.length) : pzOk p cs = false := by
  have : ¬ cs.length ≤ 6 := by omega
  simp [pzOk, this]
theorem pzOk_all {p : Int} {cs : List Cl} (hp : within p 1 4 = true) (h : cs.length ≤ 6) : pzOk p cs = cs.all (clOk p) := by simp [pzOk, hp, h]
theorem all_no {p : Int} {cs : List Cl} {k : Nat} (hk : k < cs.length) (h : clOk p cs[k] = false) : cs.all (clOk p) = false := List.all_eq_false.2 ⟨_, List.getElem_mem hk, by simp [h]⟩
theorem all_yes {p : Int} {cs : List Cl} (h : ∀ k (hk : k < cs.length), clOk p cs[k] = true) : cs.all (clOk p) = true := by
  rw [List.all_eq_true]
  intro x hx
  obtain ⟨k, hk, rfl⟩ := List.getElem_of_mem hx
  exact h k hk
end Go.Proofs.Ytcoagbcleccmmaa

namespace Go.Proofs.Ytcoagbcleccmmaa
open Go.RowKit

def leastOf : List Int → Int | [] => 0 | x :: l => l.foldl min x
def mostOf : List Int → Int | [] => 0 | x :: l => l.foldl max x
theorem leastOf_snoc {l : List Int} (h : l ≠ []) (x : Int) : leastOf (l ++ [x]) = min (leastOf l) x := by
  cases l with
  | nil => exact absurd rfl h
  | cons y l => simp [leastOf, List.foldl_append]
theorem mostOf_snoc {l : List Int} (h : l ≠ []) (x : Int) : mostOf (l ++ [x]) = max (mostOf l) x := by
  cases l with
  | nil => exact absurd rfl h
  | cons y l => simp [mostOf, List.foldl_append]
theorem le_foldl (l : List Int) (x b : Int) : b ≤ l.foldl min x ↔ b ≤ x ∧ ∀ y ∈ l, b ≤ y := by
  induction l generalizing x with
  | nil => simp
  | cons y l ih =>
    simp only [List.foldl_cons, ih, List.mem_cons, forall_eq_or_imp]
    constructor
    · rintro ⟨h, k⟩; exact ⟨by omega, by omega, k⟩
    · rintro ⟨h, k, m⟩; exact ⟨by omega, m⟩
theorem foldl_le (l : List Int) (x b : Int) : l.foldl max x ≤ b ↔ x ≤ b ∧ ∀ y ∈ l, y ≤ b := by
  induction l generalizing x with
  | nil => simp
  | cons y l ih =>
    simp only [List.foldl_cons, ih, List.mem_cons, forall_eq_or_imp]
    constructor
    · rintro ⟨h, k⟩; exact ⟨by omega, by omega, k⟩
    · rintro ⟨h, k, m⟩; exact ⟨by omega, m⟩
theorem le_leastOf {l : List Int} (h : l ≠ []) (b : Int) : b ≤ leastOf l ↔ ∀ y ∈ l, b ≤ y := by
  cases l with
  | nil => exact absurd rfl h
  | cons x l => simp [leastOf, le_foldl]
theorem mostOf_le {l : List Int} (h : l ≠ []) (b : Int) : mostOf l ≤ b ↔ ∀ y ∈ l, y ≤ b := by
  cases l with
  | nil => exact absurd rfl h
  | cons x l => simp [mostOf, foldl_le]
theorem allIn_iff (l : List Int) (lo hi : Int) : allIn l lo hi = true ↔ ∀ y ∈ l, lo ≤ y ∧ y ≤ hi := by simp [allIn, within]
theorem leastOf_next {xs : List Int} {k : Nat} (h0 : 0 < k) (hk : k < xs.length) : leastOf (xs.take (k + 1)) = min (leastOf (xs.take k)) xs[k] := by
  rw [List.take_succ_eq_append_getElem hk]
  exact leastOf_snoc (by intro h; have := congrArg List.length h; rw [List.length_take, List.length_nil] at this; omega) _
theorem mostOf_next {xs : List Int} {k : Nat} (h0 : 0 < k) (hk : k < xs.length) : mostOf (xs.take (k + 1)) = max (mostOf (xs.take k)) xs[k] := by
  rw [List.take_succ_eq_append_getElem hk]
  exact mostOf_snoc (by intro h; have := congrArg List.length h; rw [List.length_take, List.length_nil] at this; omega) _

theorem isParty_min {xs : List Int} {s : Int} (h1 : 0 < xs.length) (h : leastOf xs < 1) : isParty xs s = false := by
  have hne : xs ≠ [] := by intro e; subst e; simp at h1
  have h2 : allIn xs 1 1000 = false := by
    cases h3 : allIn xs 1 1000
    · rfl
    · have h4 := (le_leastOf hne 1).2 fun y hy => ((allIn_iff _ _ _).1 h3 y hy).1
      omega
  simp [isParty, h2]
theorem isParty_max {xs : List Int} {s : Int} (h1 : 0 < xs.length) (h : 1000 < mostOf xs) : isParty xs s = false := by
  have hne : xs ≠ [] := by intro e; subst e; simp at h1
  have h2 : allIn xs 1 1000 = false := by
    cases h3 : allIn xs 1 1000
    · rfl
    · have h4 := (mostOf_le hne 1000).2 fun y hy => ((allIn_iff _ _ _).1 h3 y hy).2
      omega
  simp [isParty, h2]
theorem isParty_yes {xs : List Int} {s : Int} (h1 : 0 < xs.length) (h8 : xs.length ≤ 8) (h : 1 ≤ leastOf xs) (h' : mostOf xs ≤ 1000) (hs : 1 ≤ s) (hs' : s ≤ 3) : isParty xs s = true := by
  have hne : xs ≠ [] := by intro e; subst e; simp at h1
  have h3 : allIn xs 1 1000 = true := (allIn_iff _ _ _).2 fun y hy => ⟨(le_leastOf hne 1).1 h y hy, (mostOf_le hne 1000).1 h' y hy⟩
  simp only [isParty, h3, within_yes hs hs', within_yes (show (1 : Int) ≤ xs.length by omega) (show (xs.length : Int) ≤ 8 by omega), Bool.and_self]
theorem isParty_len {xs : List Int} {s : Int} (h : xs.length < 1 ∨ 8 < xs.length) : isParty xs s = false := by
  simp only [isParty, within_no (show (xs.length : Int) < 1 ∨ (8 : Int) < xs.length by omega), Bool.false_and]
theorem isParty_seats {xs : List Int} {s : Int} (h : s < 1 ∨ 3 < s) : isParty xs s = false := by
  simp only [isParty, within_no h, Bool.and_false]

end Go.Proofs.Ytcoagbcleccmmaa

namespace Go.Proofs.Ytcoagbcleccmmaa
open Go.RowKit

/-- The number at k is no less than the one ahead of it. -/
def stepAt (xs : List Int) (k : Nat) : Bool := decide (xs.getD k 0 ≤ xs.getD (k + 1) 0)
/-- Numbers that do not fall. -/
def sortI (xs : List Int) : Bool := (List.range (xs.length - 1)).all (stepAt xs)
/-- Hidden times. -/
def hidI (xs : List Int) : Bool := within xs.length 1 4 && (allIn xs 1 6 && sortI xs)
theorem sortI_no {xs : List Int} {k : Nat} (hk : k + 1 < xs.length) (h : xs[k + 1] < xs[k]) : sortI xs = false := by
  cases he : sortI xs
  · rfl
  · rw [sortI, List.all_eq_true] at he
    have := he k (List.mem_range.2 (by omega))
    simp only [stepAt, List.getD_eq_getElem?_getD, List.getElem?_eq_getElem hk, List.getElem?_eq_getElem (show k < xs.length by omega), Option.getD_some, decide_eq_true_eq] at this
    omega
theorem sortI_yes {xs : List Int} (h : ∀ k, k + 1 < xs.length → stepAt xs k = true) : sortI xs = true := by
  rw [sortI, List.all_eq_true]; exact fun k hk => h k (by have := List.mem_range.1 hk; omega)
theorem stepAt_of {xs : List Int} {k : Nat} (hk : k + 1 < xs.length) (h : ¬ xs[k + 1] < xs[k]) : stepAt xs k = true := by
  simp only [stepAt, List.getD_eq_getElem?_getD, List.getElem?_eq_getElem hk, List.getElem?_eq_getElem (show k < xs.length by omega), Option.getD_some, decide_eq_true_eq]
  omega
theorem sortI_at {xs : List Int} (h : sortI xs = true) {k : Nat} (hk : k + 1 < xs.length) : xs[k] ≤ xs[k + 1] := by
  rw [sortI, List.all_eq_true] at h
  have := h k (List.mem_range.2 (by omega))
  simpa only [stepAt, List.getD_eq_getElem?_getD, List.getElem?_eq_getElem hk, List.getElem?_eq_getElem (show k < xs.length by omega), Option.getD_some, decide_eq_true_eq] using this
theorem sortI_up {xs : List Int} (h : sortI xs = true) : ∀ (j k : Nat) (hjk : j ≤ k) (hk : k < xs.length), xs[j] ≤ xs[k]
  | j, 0, hjk, hk => by obtain rfl : j = 0 := by omega
                        exact Int.le_refl _
  | j, k + 1, hjk, hk => by
    rcases Nat.lt_or_ge k j with h1 | h1
    · obtain rfl : j = k + 1 := by omega
      exact Int.le_refl _
    · exact Int.le_trans (sortI_up h j k h1 (by omega)) (sortI_at h hk)
theorem hidI_len {xs : List Int} (h : xs.length < 1 ∨ 4 < xs.length) : hidI xs = false := by
  rw [hidI, within_no (by omega)]; rfl
theorem hidI_all {xs : List Int} (h : allIn xs 1 6 = false) : hidI xs = false := by simp [hidI, h]
theorem hidI_sort {xs : List Int} (h : sortI xs = false) : hidI xs = false := by simp [hidI, h]
theorem hidI_yes {xs : List Int} (h1 : 1 ≤ xs.length) (h4 : xs.length ≤ 4) (h : allIn xs 1 6 = true) (hs : sortI xs = true) : hidI xs = true := by
  rw [hidI, within_yes (by omega) (by omega), h, hs]; rfl
theorem allIn_first {xs : List Int} {lo hi : Int} (h0 : 0 < xs.length) (h : xs[0] < lo) : allIn xs lo hi = false := allIn_no h0 (within_no (.inl h))
theorem allIn_last {xs : List Int} {lo hi : Int} {k : Nat} (hk : k < xs.length) (h : hi < xs[k]) : allIn xs lo hi = false := allIn_no hk (within_no (.inr h))
theorem allIn_ends {xs : List Int} {lo hi : Int} {m : Nat} (hm : m + 1 = xs.length) (hs : sortI xs = true) (h : lo ≤ xs[0]) (h' : xs[m] ≤ hi) : allIn xs lo hi = true :=
  allIn_yes fun k hk => within_yes (Int.le_trans h (sortI_up hs 0 k (by omega) hk)) (Int.le_trans (sortI_up hs k m (by omega) (by omega)) h')
theorem hidI_parts {xs : List Int} (h : hidI xs = true) : 1 ≤ xs.length ∧ xs.length ≤ 4 ∧ (∀ y ∈ xs, 1 ≤ y ∧ y ≤ 6) ∧ sortI xs = true := by
  simp only [hidI, Bool.and_eq_true, within_iff] at h
  exact ⟨by omega, by omega, (allIn_iff _ _ _).1 h.2.1, h.2.2⟩

set_option maxHeartbeats 400000 in
theorem isNaNh_any (x : Int) (w : World) : Calls Try.prog 90 #[.int .i64 x] w fun e w' => e = .returned (.bool false) ∧ w = w' := by
  go_enter Try.func90, Try.ntmps90
  go_wp2
  go_ret
  exact ⟨by simp, rfl⟩
set_option maxHeartbeats 400000 in
theorem less_any (x y : Int) (w : World) : Calls Try.prog 79 #[.int .i64 x, .int .i64 y] w fun e w' => e = .returned (.bool (decide (x < y))) ∧ w = w' := by
  by_cases h : x < y
  · have HC : Hid (decide (x < y) = true) := decide_eq_true h
    go_enter Try.func79, Try.ntmps79
    go_wp2_with (go_at_call 90; refine (isNaNh_any _ _).mono ?_; rintro e w' ⟨rfl, rfl⟩)
    go_ret
    exact ⟨ret_of (by rw [HC.out]; rfl), rfl⟩
  · have HC : Hid (decide (x < y) = false) := decide_eq_false h
    go_enter Try.func79, Try.ntmps79
    go_wp2_with (go_at_call 90; refine (isNaNh_any _ _).mono ?_; rintro e w' ⟨rfl, rfl⟩)
    go_ret
    exact ⟨ret_of (by rw [HC.out]; rfl), rfl⟩
theorem less_drawn (x y : Int) (w : World) (k : Nat) : Calls Try.prog 79 #[.int .i64 x, .int .i64 y] (w.drewN k) fun e w'' => e = .returned (.bool (decide (x < y))) ∧ ∃ q, w'' = w.drewN q :=
  (less_any x y _).mono fun _ _ ⟨h, q⟩ => ⟨h, k, q.symm⟩

set_option maxHeartbeats 1600000 in
theorem isSortedI_any (A : Option Addr) (n c : Nat) (xs : List Int) (w : World) (hA : Holds w A (nums xs)) (hx : xs.length = n) (hn : n ≤ 1048576) :
    Calls Try.prog 61 #[.slice A n c] w fun e w' => e = .returned (.bool (sortI xs)) ∧ ∃ q, w' = w.drewN q := by
  subst hx
  go_enter Try.func61, Try.ntmps61
  go_wp2
  go_loopw [3] (fun i wr => ∃ (x : Int) (q : Nat), i = .int .i64 x ∧ -1 ≤ x ∧ x ≤ (xs.length : Int) - 1 ∧ wr = w.drewN q ∧ ∀ j : Nat, x ≤ (j : Int) → j + 1 < xs.length → stepAt xs j = true) (fun i _ => (intOf i).toNat)
  case atStart => exact ⟨_, 0, rfl, by omega, by omega, rfl, fun j h1 h2 => by omega⟩
  case round =>
    obtain ⟨x, q, rfl, hx0, hx1, rfl, hall⟩ := hrel
    have HALL := Lib.hid hall
    clear hall
    by_cases hpos : 0 < x
    · obtain ⟨k, rfl⟩ : ∃ k : Nat, x = (k : Int) + 1 := ⟨(x - 1).toNat, by omega⟩
      have hk1 : k + 1 < xs.length := by omega
      have hk0 : k < xs.length := by omega
      have hAq : Holds (w.drewN q) A (nums xs) := hA.below (below_draws (Below.refl _ _) q)
      obtain ⟨b, o, hAe, hb, hc1⟩ := hAq.look (k := k + 1) (by simpa [nums] using hk1)
      obtain ⟨b2, o2, hAe2, hb2, hc0⟩ := hAq.look (k := k) (by simpa [nums] using hk0)
      obtain ⟨rfl, rfl⟩ : b = b2 ∧ o = o2 := by
        rw [hAe] at hAe2
        simp only [Option.some.injEq, Addr.mk.injEq] at hAe2
        exact ⟨hAe2.1, hAe2.2.1⟩
      subst hAe
      clear hAe2 hb2
      simp only [nums, List.getElem_map] at hc1 hc0
      have hkw : IntKind.i64.wrap (k : Int) = k := IntWalk.i64_in _ (by omega)
      have hkw1 : IntKind.i64.wrap ((k : Int) + 1 - 1) = k := by rw [show (k : Int) + 1 - 1 = k by omega]; exact hkw
      obtain ⟨wr, hwr⟩ : ∃ wr, wr = w.drewN q := ⟨_, rfl⟩
      rw [← hwr] at hc1 hc0 hb ⊢
      have HWR := Lib.hid hwr
      clear hwr
      obtain ⟨a1, ha1⟩ : ∃ a1, a1 = xs[k + 1] := ⟨_, rfl⟩
      obtain ⟨a0, ha0⟩ : ∃ a0, a0 = xs[k] := ⟨_, rfl⟩
      rw [← ha1] at hc1
      rw [← ha0] at hc0
      by_cases hlt : a1 < a0
      · have HP := Lib.hid (sortI_no (xs := xs) (k := k) hk1 (by rw [← ha1, ← ha0]; exact hlt))
        clear ha1 ha0
        go_wp2
        go_quiet (refine less_drawn _ _ wr _)
        rw [HWR.out]
        go_wp2
        go_ret
        exact ⟨ret_of (by rw [HP.out]; rfl), _, World.drewN_drewN _ _ _⟩
      · have HAT := Lib.hid (stepAt_of (xs := xs) (k := k) hk1 (by rw [← ha1, ← ha0]; exact hlt))
        clear ha1 ha0
        go_wp2
        go_quiet (refine less_drawn _ _ wr _)
        rw [HWR.out]
        go_wp2
        go_roundw
        case rel => exact ⟨k, _, by go_num, by omega, by omega, rfl, fun j h1 h2 => by
          rcases Nat.lt_or_ge k j with h3 | h3
          · exact HALL.out j (by omega) h2
          · obtain rfl : j = k := by omega
            exact HAT.out⟩
        case measure => simp [intOf]
    · have HP := Lib.hid (sortI_yes (xs := xs) fun k hk => HALL.out k (by omega) hk)
      go_wp2
      go_ret
      exact ⟨ret_of (by rw [HP.out]; rfl), q, rfl⟩

set_option maxHeartbeats 400000 in
theorem canHide_any (p : Int) (w : World) :
    Calls Try.prog 57 #[.int .i64 p] w fun e w' => e = .returned (.bool (within p 1 4)) ∧ w = w' := by
  by_cases h1 : 1 ≤ p
  · by_cases h2 : p ≤ 4
    · have HW := Lib.hid (within_yes h1 h2)
      go_enter Try.func57, Try.ntmps57
      go_wp2
      go_ret
      exact ⟨ret_of (by rw [HW.out]; rfl), rfl⟩
    · have HW := Lib.hid (within_no (lo := 1) (.inr (Int.not_le.1 h2)))
      go_enter Try.func57, Try.ntmps57
      go_wp2
      go_ret
      exact ⟨ret_of (by rw [HW.out]; rfl), rfl⟩
  · have HW := Lib.hid (within_no (hi := 4) (.inl (Int.not_le.1 h1)))
    go_enter Try.func57, Try.ntmps57
    go_wp2
    go_ret
    exact ⟨ret_of (by rw [HW.out]; rfl), rfl⟩
theorem pzPeople_any (p : Int) (w : World) :
    Calls Try.prog 52 #[.int .i64 p] w fun e w' => e = .returned (.bool (within p 1 4)) ∧ w = w' := by
  go_enter Try.func52, Try.ntmps52
  go_wp2_with fail
  refine (l1In_any _ _ _ _).mono ?_
  rintro e w' ⟨rfl, rfl⟩
  go_wp2
  go_ret
  exact ⟨rfl, rfl⟩

set_option maxHeartbeats 1600000 in
theorem isHidden_any (A : Option Addr) (n c : Nat) (xs : List Int) (w : World) (hA : Holds w A (nums xs)) (hx : xs.length = n) (hn : n ≤ 1048576) :
    Calls Try.prog 25 #[.slice A n c] w fun e w' => e = .returned (.bool (hidI xs)) ∧ ∃ q, w' = w.drewN q := by
  subst hx
  by_cases hl : 1 ≤ xs.length ∧ xs.length ≤ 4
  · have HLW := Lib.hid (within_yes (n := xs.length) (lo := 1) (hi := 4) (by omega) (by omega))
    cases hso : sortI xs
    · have HP := Lib.hid (hidI_sort hso)
      have HSO := Lib.hid hso
      clear hso
      go_enter Try.func25, Try.ntmps25
      go_wp2_with (go_at_call 57; refine (canHide_any _ _).mono ?_; rintro e w' ⟨rfl, rfl⟩; rw [HLW.out])
      refine (isSortedI_any A _ c xs _ hA rfl hn).mono ?_
      rintro e w' ⟨rfl, q, rfl⟩
      rw [HSO.out]
      go_wp2
      go_ret
      exact ⟨ret_of (by rw [HP.out]; rfl), q, rfl⟩
    · obtain ⟨b, o, rfl, hb, hc0⟩ := hA.look (k := 0) (by simp [nums]; omega)
      obtain ⟨b2, o2, hAe2, hb2, hc1⟩ := hA.look (k := xs.length - 1) (by simp [nums]; omega)
      obtain ⟨rfl, rfl⟩ : b = b2 ∧ o = o2 := by
        simp only [Option.some.injEq, Addr.mk.injEq] at hAe2
        exact ⟨hAe2.1, hAe2.2.1⟩
      clear hAe2 hb2
      simp only [nums, List.getElem_map, Nat.add_zero] at hc1 hc0
      obtain ⟨m, hm⟩ : ∃ m, m + 1 = xs.length := ⟨xs.length - 1, by omega⟩
      have hm1 : xs.length - 1 = m := by omega
      have hc1' : w.cell? ⟨b, o + m, none⟩ = some (.int .i64 (xs[m]'(by omega))) := by simpa only [hm1] using hc1
      clear hc1
      obtain ⟨a0, ha0⟩ : ∃ a0, a0 = xs[0]'(by omega) := ⟨_, rfl⟩
      obtain ⟨a1, ha1⟩ : ∃ a1, a1 = xs[m]'(by omega) := ⟨_, rfl⟩
      rw [← ha0] at hc0
      rw [← ha1] at hc1'
      have HSO := Lib.hid hso
      have hlm : (xs.length : Int) - 1 = m := by omega
      have hmw : IntKind.i64.wrap ((xs.length : Int) - 1) = m := by rw [hlm]; exact IntWalk.i64_in _ (by omega)
      have h0l : (0 : Int) < xs.length := by omega
      have hml : (m : Int) < xs.length := by omega
      have HC0 := Lib.hid hc0
      have HC1 := Lib.hid hc1'
      clear hso hc0 hc1'
      by_cases h1 : 1 ≤ a0
      · by_cases h6 : a1 ≤ 6
        · have HP := Lib.hid (hidI_yes hl.1 hl.2 (allIn_ends (lo := 1) (hi := 6) hm HSO.out (by rw [← ha0]; exact h1) (by rw [← ha1]; exact h6)) HSO.out)
          clear ha0 ha1 hm hm1
          go_enter Try.func25, Try.ntmps25
          go_wp2_with (go_at_call 57; refine (canHide_any _ _).mono ?_; rintro e w' ⟨rfl, rfl⟩; rw [HLW.out])
          refine (isSortedI_any _ _ c xs _ hA rfl hn).mono ?_
          rintro e w' ⟨rfl, q, rfl⟩
          rw [HSO.out]
          have hc0 : (w.drewN q).cell? ⟨b, o, none⟩ = some (.int .i64 a0) := HC0.out
          have hc1 : (w.drewN q).cell? ⟨b, o + m, none⟩ = some (.int .i64 a1) := HC1.out
          go_wp2
          go_ret
          exact ⟨ret_of (by rw [HP.out]; first | rfl | (show Value.bool (decide (a1 ≤ 6)) = _; first | rw [decide_eq_true h6] | rw [decide_eq_false (by omega)])), q, rfl⟩
        · have HP := Lib.hid (hidI_all (allIn_last (xs := xs) (lo := 1) (hi := 6) (k := m) (by omega) (by rw [← ha1]; omega)))
          clear ha0 ha1 hm hm1
          go_enter Try.func25, Try.ntmps25
          go_wp2_with (go_at_call 57; refine (canHide_any _ _).mono ?_; rintro e w' ⟨rfl, rfl⟩; rw [HLW.out])
          refine (isSortedI_any _ _ c xs _ hA rfl hn).mono ?_
          rintro e w' ⟨rfl, q, rfl⟩
          rw [HSO.out]
          have hc0 : (w.drewN q).cell? ⟨b, o, none⟩ = some (.int .i64 a0) := HC0.out
          have hc1 : (w.drewN q).cell? ⟨b, o + m, none⟩ = some (.int .i64 a1) := HC1.out
          go_wp2
          go_ret
          exact ⟨ret_of (by rw [HP.out]; first | rfl | (show Value.bool (decide (a1 ≤ 6)) = _; first | rw [decide_eq_true h6] | rw [decide_eq_false (by omega)])), q, rfl⟩
      · have HP := Lib.hid (hidI_all (allIn_first (xs := xs) (lo := 1) (hi := 6) (by omega) (by rw [← ha0]; omega)))
        clear ha0 ha1 hm hm1
        go_enter Try.func25, Try.ntmps25
        go_wp2_with (go_at_call 57; refine (canHide_any _ _).mono ?_; rintro e w' ⟨rfl, rfl⟩; rw [HLW.out])
        refine (isSortedI_any _ _ c xs _ hA rfl hn).mono ?_
        rintro e w' ⟨rfl, q, rfl⟩
        rw [HSO.out]
        have hc0 : (w.drewN q).cell? ⟨b, o, none⟩ = some (.int .i64 a0) := HC0.out
        go_wp2
        go_ret
        exact ⟨ret_of (by rw [HP.out]; rfl), q, rfl⟩
  · have HLW := Lib.hid (within_no (n := xs.length) (lo := 1) (hi := 4) (by omega))
    have HP := Lib.hid (hidI_len (xs := xs) (by omega))
    go_enter Try.func25, Try.ntmps25
    go_wp2_with (go_at_call 57; refine (canHide_any _ _).mono ?_; rintro e w' ⟨rfl, rfl⟩; rw [HLW.out])
    go_ret
    exact ⟨ret_of (by rw [HP.out]; rfl), 0, rfl⟩

set_option maxHeartbeats 800000 in
theorem pzHidden_any (A : Option Addr) (n c : Nat) (xs : List Int) (w : World) (hA : Holds w A (nums xs)) (hx : xs.length = n) (hn : n ≤ 1048576) :
    Calls Try.prog 60 #[.slice A n c] w fun e w' => e = .returned (.bool (hidI xs)) ∧ ∃ q, w' = w.drewN q := by
  subst hx
  by_cases hl : 1 ≤ xs.length ∧ xs.length ≤ 4
  · have HLW := Lib.hid (within_yes (n := xs.length) (lo := 1) (hi := 4) (by omega) (by omega))
    cases hal : allIn xs 1 6
    · have HP := Lib.hid (hidI_all hal)
      have HAL := Lib.hid hal
      clear hal
      go_enter Try.func60, Try.ntmps60
      go_wp2_with (first | (go_at_call 52; refine (pzPeople_any _ _).mono ?_; rintro e w' ⟨rfl, rfl⟩; rw [HLW.out]) | (go_at_call 78; refine (l1All_any A _ c xs _ _ _ hA rfl (by omega)).mono ?_; rintro e w' ⟨rfl, rfl⟩; rw [HAL.out]))
      go_ret
      exact ⟨ret_of (by rw [HP.out]; rfl), 0, rfl⟩
    · have HAL := Lib.hid hal
      clear hal
      go_enter Try.func60, Try.ntmps60
      go_wp2_with (first | (go_at_call 52; refine (pzPeople_any _ _).mono ?_; rintro e w' ⟨rfl, rfl⟩; rw [HLW.out]) | (go_at_call 78; refine (l1All_any A _ c xs _ _ _ hA rfl (by omega)).mono ?_; rintro e w' ⟨rfl, rfl⟩; rw [HAL.out]))
      go_loopw [3] (fun i wr => ∃ (k q : Nat), i = .int .i64 ((k : Int) + 1) ∧ k + 1 ≤ xs.length ∧ wr = w.drewN q ∧ ∀ j : Nat, j < k → stepAt xs j = true) (fun i _ => xs.length - (intOf i).toNat)
      case atStart => exact ⟨0, 0, rfl, by omega, rfl, fun j h => absurd h (by omega)⟩
      case round =>
        obtain ⟨k, q, rfl, hk, rfl, hall⟩ := hrel
        have HALL := Lib.hid hall
        clear hall
        by_cases hlt : k + 1 < xs.length
        · have hk0 : k < xs.length := by omega
          have hAq : Holds (w.drewN q) A (nums xs) := hA.below (below_draws (Below.refl _ _) q)
          obtain ⟨b, o, hAe, hb, hc1⟩ := hAq.look (k := k + 1) (by simpa [nums] using hlt)
          obtain ⟨b2, o2, hAe2, hb2, hc0⟩ := hAq.look (k := k) (by simpa [nums] using hk0)
          obtain ⟨rfl, rfl⟩ : b = b2 ∧ o = o2 := by
            rw [hAe] at hAe2
            simp only [Option.some.injEq, Addr.mk.injEq] at hAe2
            exact ⟨hAe2.1, hAe2.2.1⟩
          subst hAe
          clear hAe2 hb2
          simp only [nums, List.getElem_map] at hc1 hc0
          have hkw : IntKind.i64.wrap (k : Int) = k := IntWalk.i64_in _ (by omega)
          have hkw1 : IntKind.i64.wrap ((k : Int) + 1 - 1) = k := by rw [show (k : Int) + 1 - 1 = k by omega]; exact hkw
          have hkp : (k : Int) + 1 < xs.length := by omega
          obtain ⟨wr, hwr⟩ : ∃ wr, wr = w.drewN q := ⟨_, rfl⟩
          rw [← hwr] at hc1 hc0 hb ⊢
          have HWR := Lib.hid hwr
          clear hwr
          obtain ⟨a1, ha1⟩ : ∃ a1, a1 = xs[k + 1] := ⟨_, rfl⟩
          obtain ⟨a0, ha0⟩ : ∃ a0, a0 = xs[k] := ⟨_, rfl⟩
          rw [← ha1] at hc1
          rw [← ha0] at hc0
          by_cases hst : a1 < a0
          · have HP := Lib.hid (hidI_sort (sortI_no (xs := xs) (k := k) hlt (by rw [← ha1, ← ha0]; exact hst)))
            clear ha1 ha0
            go_wp2_with fail
            go_region
            rw [HWR.out]
            go_wp2
            go_ret
            exact ⟨ret_of (by rw [HP.out]; rfl), _, World.drewN_drewN _ _ _⟩
          · have HAT := Lib.hid (stepAt_of (xs := xs) (k := k) hlt (by rw [← ha1, ← ha0]; exact hst))
            clear ha1 ha0
            go_wp2_with fail
            go_region
            rw [HWR.out]
            go_wp2
            go_roundw
            case rel => exact ⟨k + 1, _, by go_num, by omega, rfl, fun j h => by
              rcases Nat.lt_or_ge j k with h3 | h3
              · exact HALL.out j h3
              · obtain rfl : j = k := by omega
                exact HAT.out⟩
            case measure => simp [intOf]; omega
        · have HP := Lib.hid (hidI_yes hl.1 hl.2 HAL.out (sortI_yes (xs := xs) fun j hj => HALL.out j (by omega)))
          go_wp2
          go_ret
          exact ⟨ret_of (by rw [HP.out]; rfl), q, rfl⟩
  · have HLW := Lib.hid (within_no (n := xs.length) (lo := 1) (hi := 4) (by omega))
    have HP := Lib.hid (hidI_len (xs := xs) (by omega))
    go_enter Try.func60, Try.ntmps60
    go_wp2_with (go_at_call 52; refine (pzPeople_any _ _).mono ?_; rintro e w' ⟨rfl, rfl⟩; rw [HLW.out])
    go_ret
    exact ⟨ret_of (by rw [HP.out]; rfl), 0, rfl⟩

theorem implIsHidden_on (A : Option Addr) (n c : Nat) (xs : List Int) (w : World) (hA : Holds w A (nums xs)) (hx : xs.length = n) (hn : n ≤ 1048576) :
    Calls Try.prog 25 #[.slice A n c] w fun e w' => e = .returned (.bool (hidI xs)) ∧ Below w.heap.size w w' :=
  (isHidden_any A n c xs w hA hx hn).mono fun _ _ ⟨h, q, hq⟩ => ⟨h, hq ▸ below_draws (Below.refl _ _) q⟩
set_option maxHeartbeats 400000 in
theorem specIsHidden_on (A : Option Addr) (n c : Nat) (xs : List Int) (w : World) (hA : Holds w A (nums xs)) (hx : xs.length = n) (hn : n ≤ 1048576) :
    Calls Try.prog 23 #[.slice A n c] w fun e w' => e = .returned (.bool (hidI xs)) ∧ Below w.heap.size w w' := by
  go_enter Try.func23, Try.ntmps23
  go_wp2_with fail
  refine (pzHidden_any A n c xs _ hA hx hn).mono ?_
  rintro e w' ⟨rfl, q, rfl⟩
  go_wp2
  go_ret
  exact ⟨rfl, below_draws (Below.refl _ _) q⟩
end Go.Proofs.Ytcoagbcleccmmaa

namespace Go.Proofs.Ytcoagbcleccmmaa
open Go.RowKit

/-- What A and B of a clue of a kind may be. -/
def spanOf (p k : Int) : Option ((Int × Int) × (Int × Int)) :=
  if k = 0 then some ((0, p - 1), (1, 6)) else if k = 1 then some ((1, 24), (0, 0)) else if k = 2 ∨ k = 3 then some ((1, 100), (0, 0))
  else if k = 4 then some ((0, p - 1), (0, 5)) else if k = 5 then some ((0, p), (0, 0)) else none
def spC (s : Int × Int) : Array Value := #[.int .i64 s.1, .int .i64 s.2]
theorem clOk_span {p k a b : Int} {x y : Int × Int} (h : spanOf p k = some (x, y)) : clOk p (k, a, b) = (within a x.1 x.2 && within b y.1 y.2) := by
  unfold spanOf at h
  split at h
  · next e => subst e; cases h; exact clOk0
  split at h
  · next e => subst e; cases h; exact clOk1
  split at h
  · next e => rcases e with rfl | rfl <;> cases h <;> rfl
  split at h
  · next e => subst e; cases h; exact clOk4
  split at h
  · next e => subst e; cases h; exact clOk5
  · cases h
theorem clOk_none {p k a b : Int} (h : spanOf p k = none) : clOk p (k, a, b) = false := by
  unfold spanOf at h
  split at h
  · cases h
  split at h
  · cases h
  split at h
  · cases h
  split at h
  · cases h
  split at h
  · cases h
  next h0 h1 h23 h4 h5 => exact clOk_no h0 h1 (fun e => h23 (.inl e)) (fun e => h23 (.inr e)) h4 h5

theorem below_five (w w' : World) (a b c d e : Obj) (h : w' = ((((w.alloc a).alloc b).alloc c).alloc d).alloc e) : Below w.heap.size w w' := by
  subst h
  exact (below4 w a b c d).alloc (by simp; omega) e

/-- The value that a clue that is none is raised as. -/
def raisedCl (c : Cl) : List PanicEntry := [{ v := .iface 25 (.agg (clC c)), recovered := false }]

set_option maxHeartbeats 1600000 in
theorem spansOf_any (p k a b : Int) (w : World) (hp : 1 ≤ p) (hp4 : p ≤ 4) (x y : Int × Int) (h : spanOf p k = some (x, y)) :
    Calls Try.prog 88 #[.int .i64 p, .agg #[.int .i64 k, .int .i64 a, .int .i64 b]] w fun e w' => e = .returned (.tuple #[.agg #[.int .i64 x.1, .int .i64 x.2], .agg #[.int .i64 y.1, .int .i64 y.2]]) ∧ Below w.heap.size w w' := by
  have hpw : IntKind.i64.wrap (p - 1) = p - 1 := IntWalk.i64_in _ (by omega)
  unfold spanOf at h
  split at h
  · next e =>
    subst e; cases h
    go_enter Try.func88, Try.ntmps88
    go_wp2
    exact bodyPost_ret (v := .tuple #[.agg #[.int .i64 0, .int .i64 (p - 1)], .agg #[.int .i64 1, .int .i64 6]]) (by simp [results, Try.results88, go_sem]) rfl ⟨rfl, below_five w _ _ _ _ _ _ rfl⟩
  split at h
  · next e =>
    subst e; cases h
    go_enter Try.func88, Try.ntmps88
    go_wp2
    go_region
    go_wp2
    exact bodyPost_ret (v := .tuple #[.agg #[.int .i64 1, .int .i64 24], .agg #[.int .i64 0, .int .i64 0]]) (by simp [results, Try.results88, go_sem]) rfl ⟨rfl, (below_five w _ _ _ _ _ _ rfl).drew⟩
  split at h
  · next e =>
    rcases e with rfl | rfl
    all_goals
      cases h
      go_enter Try.func88, Try.ntmps88
      go_wp2
      go_region
      go_wp2
      exact bodyPost_ret (v := .tuple #[.agg #[.int .i64 1, .int .i64 100], .agg #[.int .i64 0, .int .i64 0]]) (by simp [results, Try.results88, go_sem]) rfl ⟨rfl, (below_five w _ _ _ _ _ _ rfl).drew⟩
  split at h
  · next e =>
    subst e; cases h
    go_enter Try.func88, Try.ntmps88
    go_wp2
    exact bodyPost_ret (v := .tuple #[.agg #[.int .i64 0, .int .i64 (p - 1)], .agg #[.int .i64 0, .int .i64 5]]) (by simp [results, Try.results88, go_sem]) rfl ⟨rfl, below_five w _ _ _ _ _ _ rfl⟩
  split at h
  · next e =>
    subst e; cases h
    go_enter Try.func88, Try.ntmps88
    go_wp2
    go_region
    go_wp2
    exact bodyPost_ret (v := .tuple #[.agg #[.int .i64 0, .int .i64 p], .agg #[.int .i64 0, .int .i64 0]]) (by simp [results, Try.results88, go_sem]) rfl ⟨rfl, (below_five w _ _ _ _ _ _ rfl).drew⟩
  · cases h

set_option maxHeartbeats 800000 in
theorem spansOf_none (p k a b : Int) (w : World) (hp : 1 ≤ p) (hp4 : p ≤ 4) (h : spanOf p k = none) :
    Calls Try.prog 88 #[.int .i64 p, .agg #[.int .i64 k, .int .i64 a, .int .i64 b]] w fun e w' => e = .panicked [{ v := .iface 25 (.agg #[.int .i64 k, .int .i64 a, .int .i64 b]), recovered := false }] ∧ Below w.heap.size w w' := by
  have hpw : IntKind.i64.wrap (p - 1) = p - 1 := IntWalk.i64_in _ (by omega)
  have h0 : k ≠ 0 := fun e => by subst e; cases h
  have h1 : k ≠ 1 := fun e => by subst e; cases h
  have h2 : k ≠ 2 := fun e => by subst e; cases h
  have h3 : k ≠ 3 := fun e => by subst e; cases h
  have h4 : k ≠ 4 := fun e => by subst e; cases h
  have h5 : k ≠ 5 := fun e => by subst e; cases h
  clear h
  go_enter Try.func88, Try.ntmps88
  go_wp2
  exact ⟨rfl, rfl, below_five w _ _ _ _ _ _ rfl⟩

set_option maxHeartbeats 400000 in
theorem spanHolds_any (x : Int × Int) (n : Int) (w : World) :
    Calls Try.prog 89 #[.agg #[.int .i64 x.1, .int .i64 x.2], .int .i64 n] w fun e w' => e = .returned (.bool (within n x.1 x.2)) ∧ Below w.heap.size w w' := by
  obtain ⟨lo, hi⟩ := x
  dsimp only
  by_cases h1 : lo ≤ n
  · by_cases h2 : n ≤ hi
    · have HW := Lib.hid (within_yes h1 h2)
      go_enter Try.func89, Try.ntmps89
      go_wp2
      go_ret
      exact ⟨ret_of (by rw [HW.out]; rfl), below1 w _⟩
    · have HW := Lib.hid (within_no (lo := lo) (.inr (Int.not_le.1 h2)))
      go_enter Try.func89, Try.ntmps89
      go_wp2
      go_ret
      exact ⟨ret_of (by rw [HW.out]; rfl), below1 w _⟩
  · have HW := Lib.hid (within_no (hi := hi) (.inl (Int.not_le.1 h1)))
    go_enter Try.func89, Try.ntmps89
    go_wp2
    go_ret
    exact ⟨ret_of (by rw [HW.out]; rfl), below1 w _⟩

end Go.Proofs.Ytcoagbcleccmmaa

namespace Go.Proofs.Ytcoagbcleccmmaa
open Go.RowKit

set_option maxHeartbeats 800000 in
theorem checkClue_yes (p k a b : Int) (w : World) (hp : 1 ≤ p) (hp4 : p ≤ 4) (h : clOk p (k, a, b) = true) :
    Calls Try.prog 76 #[.int .i64 p, .agg #[.int .i64 k, .int .i64 a, .int .i64 b]] w fun e w' => e = .returned (.tuple #[]) ∧ Below w.heap.size w w' := by
  cases hs : spanOf p k with
  | none => rw [clOk_none hs] at h; cases h
  | some xy =>
    obtain ⟨⟨x1, x2⟩, ⟨y1, y2⟩⟩ := xy
    have hw := clOk_span (a := a) (b := b) hs
    rw [h] at hw
    simp only [Eq.comm (a := true), Bool.and_eq_true] at hw
    have HA := Lib.hid hw.1
    have HB := Lib.hid hw.2
    have HS := Lib.hid hs
    have h0 := Whole.fresh w 25 #[.int .i64 k, .int .i64 a, .int .i64 b]
    have hbl := below1 w (.cells #[.int .i64 k, .int .i64 a, .int .i64 b] 25)
    clear hw hs h
    go_enter Try.func76, Try.ntmps76
    go_wp2_with fail
    refine (spansOf_any p k a b _ hp hp4 _ _ HS.out).mono ?_
    rintro e w1 ⟨rfl, hb1⟩
    have hw1 := h0.below hb1
    obtain ⟨c0, c1, c2⟩ := hw1.cells3
    have hlt := hw1.lt
    have hb2 := below_then hbl hb1 hbl.size
    have hc0 := (hw1.alloc (.cells #[.int .i64 x1, .int .i64 x2] 93)).alloc (.cells #[.int .i64 y1, .int .i64 y2] 93)
    have hy0 := Whole.fresh (w1.alloc (.cells #[.int .i64 x1, .int .i64 x2] 93)) 93 #[.int .i64 y1, .int .i64 y2]
    rw [World.size_alloc] at hy0
    have hb3 := (hb2.alloc hb2.size (.cells #[.int .i64 x1, .int .i64 x2] 93)).alloc (by simp; have := hb2.size; omega) (.cells #[.int .i64 y1, .int .i64 y2] 93)
    have HB2 := Lib.hid hb3
    have HC0 := Lib.hid hc0
    have HY0 := Lib.hid hy0
    clear hb1 hbl h0 hw1 hb2 hb3 hc0 hy0
    go_wp2_with fail
    refine (spanHolds_any (x1, x2) a _).mono ?_
    rintro e w2 ⟨rfl, hbq⟩
    rw [HA.out]
    clear c0 c1 c2 hlt
    have hc2 := HC0.out.below hbq
    have hlt := hc2.lt
    obtain ⟨c0, c1, c2⟩ := hc2.cells3
    obtain ⟨yc0, yc1, -, -⟩ := (HY0.out.below hbq).two
    have hb3 := below_then HB2.out hbq HB2.out.size
    have HB3 := Lib.hid hb3
    have HC2 := Lib.hid hc2
    clear hbq hb3 hc2
    go_wp2_with fail
    refine (spanHolds_any (y1, y2) b _).mono ?_
    rintro e w3 ⟨rfl, hbq⟩
    rw [HB.out]
    clear c0 c1 c2 hlt
    have hc3 := HC2.out.below hbq
    have hlt := hc3.lt
    obtain ⟨c0, c1, c2⟩ := hc3.cells3
    have hb4 := below_then HB3.out hbq HB3.out.size
    have HB4 := Lib.hid hb4
    clear hbq hb4 hc3
    go_wp2
    go_end0
    exact ⟨rfl, HB4.out⟩

set_option maxHeartbeats 1600000 in
theorem checkClue_no (p k a b : Int) (w : World) (hp : 1 ≤ p) (hp4 : p ≤ 4) (h : clOk p (k, a, b) = false) :
    Calls Try.prog 76 #[.int .i64 p, .agg #[.int .i64 k, .int .i64 a, .int .i64 b]] w fun e w' => e = .panicked [{ v := .iface 25 (.agg #[.int .i64 k, .int .i64 a, .int .i64 b]), recovered := false }] ∧ Below w.heap.size w w' := by
  have h0 := Whole.fresh w 25 #[.int .i64 k, .int .i64 a, .int .i64 b]
  have hbl := below1 w (.cells #[.int .i64 k, .int .i64 a, .int .i64 b] 25)
  cases hs : spanOf p k with
  | none =>
    have HS := Lib.hid hs
    clear hs h
    go_enter Try.func76, Try.ntmps76
    go_wp2_with fail
    refine (spansOf_none p k a b _ hp hp4 HS.out).mono ?_
    rintro e w1 ⟨rfl, hb1⟩
    have hb2 := below_then hbl hb1 hbl.size
    go_wp2
    exact ⟨rfl, rfl, hb2⟩
  | some xy =>
    obtain ⟨⟨x1, x2⟩, ⟨y1, y2⟩⟩ := xy
    have hw := clOk_span (a := a) (b := b) hs
    rw [h] at hw
    have HS := Lib.hid hs
    cases ha : within a x1 x2
    · have HA := Lib.hid ha
      clear hw hs h ha
      go_enter Try.func76, Try.ntmps76
      go_wp2_with fail
      refine (spansOf_any p k a b _ hp hp4 _ _ HS.out).mono ?_
      rintro e w1 ⟨rfl, hb1⟩
      have hw1 := h0.below hb1
      obtain ⟨c0, c1, c2⟩ := hw1.cells3
      have hlt := hw1.lt
      have hb2 := below_then hbl hb1 hbl.size
      have hc0 := (hw1.alloc (.cells #[.int .i64 x1, .int .i64 x2] 93)).alloc (.cells #[.int .i64 y1, .int .i64 y2] 93)
      have hy0 := Whole.fresh (w1.alloc (.cells #[.int .i64 x1, .int .i64 x2] 93)) 93 #[.int .i64 y1, .int .i64 y2]
      rw [World.size_alloc] at hy0
      have hb3 := (hb2.alloc hb2.size (.cells #[.int .i64 x1, .int .i64 x2] 93)).alloc (by simp; have := hb2.size; omega) (.cells #[.int .i64 y1, .int .i64 y2] 93)
      have HB2 := Lib.hid hb3
      have HC0 := Lib.hid hc0
      have HY0 := Lib.hid hy0
      clear hb1 hbl h0 hw1 hb2 hb3 hc0 hy0
      go_wp2_with fail
      refine (spanHolds_any (x1, x2) a _).mono ?_
      rintro e w2 ⟨rfl, hbq⟩
      rw [HA.out]
      clear c0 c1 c2 hlt
      have hc2 := HC0.out.below hbq
      have hlt := hc2.lt
      obtain ⟨c0, c1, c2⟩ := hc2.cells3
      obtain ⟨yc0, yc1, -, -⟩ := (HY0.out.below hbq).two
      have hb3 := below_then HB2.out hbq HB2.out.size
      have HB3 := Lib.hid hb3
      have HC2 := Lib.hid hc2
      clear hbq hb3 hc2
      go_wp2
      exact ⟨rfl, rfl, HB3.out⟩
    · rw [show within a ((x1, x2) : Int × Int).1 ((x1, x2) : Int × Int).2 = true from ha, Bool.true_and] at hw
      have HA := Lib.hid ha
      have HB := Lib.hid hw.symm
      clear hw hs h ha
      go_enter Try.func76, Try.ntmps76
      go_wp2_with fail
      refine (spansOf_any p k a b _ hp hp4 _ _ HS.out).mono ?_
      rintro e w1 ⟨rfl, hb1⟩
      have hw1 := h0.below hb1
      obtain ⟨c0, c1, c2⟩ := hw1.cells3
      have hlt := hw1.lt
      have hb2 := below_then hbl hb1 hbl.size
      have hc0 := (hw1.alloc (.cells #[.int .i64 x1, .int .i64 x2] 93)).alloc (.cells #[.int .i64 y1, .int .i64 y2] 93)
      have hy0 := Whole.fresh (w1.alloc (.cells #[.int .i64 x1, .int .i64 x2] 93)) 93 #[.int .i64 y1, .int .i64 y2]
      rw [World.size_alloc] at hy0
      have hb3 := (hb2.alloc hb2.size (.cells #[.int .i64 x1, .int .i64 x2] 93)).alloc (by simp; have := hb2.size; omega) (.cells #[.int .i64 y1, .int .i64 y2] 93)
      have HB2 := Lib.hid hb3
      have HC0 := Lib.hid hc0
      have HY0 := Lib.hid hy0
      clear hb1 hbl h0 hw1 hb2 hb3 hc0 hy0
      go_wp2_with fail
      refine (spanHolds_any (x1, x2) a _).mono ?_
      rintro e w2 ⟨rfl, hbq⟩
      rw [HA.out]
      clear c0 c1 c2 hlt
      have hc2 := HC0.out.below hbq
      have hlt := hc2.lt
      obtain ⟨c0, c1, c2⟩ := hc2.cells3
      obtain ⟨yc0, yc1, -, -⟩ := (HY0.out.below hbq).two
      have hb3 := below_then HB2.out hbq HB2.out.size
      have HB3 := Lib.hid hb3
      have HC2 := Lib.hid hc2
      clear hbq hb3 hc2
      go_wp2_with fail
      refine (spanHolds_any (y1, y2) b _).mono ?_
      rintro e w3 ⟨rfl, hbq⟩
      rw [HB.out]
      clear c0 c1 c2 hlt
      have hc3 := HC2.out.below hbq
      have hlt := hc3.lt
      obtain ⟨c0, c1, c2⟩ := hc3.cells3
      have hb4 := below_then HB3.out hbq HB3.out.size
      have HB4 := Lib.hid hb4
      clear hbq hb4 hc3
      go_wp2
      exact ⟨rfl, rfl, HB4.out⟩
end Go.Proofs.Ytcoagbcleccmmaa

namespace Go.Proofs.Ytcoagbcleccmmaa
open Go.RowKit

theorem assert_clue (v : Value) (w : World) : Sem.run Try.prog (Instr.typeAssert (.iface 25 v) 20 25 true) w = .ok (.tuple #[v, .bool true]) w := by kernel_rfl
theorem assert_nil (w : World) : Sem.run Try.prog (Instr.typeAssert .nilIface 20 25 true) w = .ok (.tuple #[.agg #[.int .i64 0, .int .i64 0, .int .i64 0], .bool false]) w := by kernel_rfl
theorem five_undef : Array.replicate 5 undef = #[undef, undef, undef, undef, undef] := rfl

theorem catchCl_panicking (p : Addr) (x : Bool) (v : Value) (older : List PanicEntry) (w : World) (hc : w.cell? p = some (.bool x)) (hz : w.frozen? p = false) :
    CallsD Try.prog 75 #[.pointer (some p)] (.panicking ({ v := .iface 25 v, recovered := false } :: older)) w fun e u' w' =>
      e = .returned (.tuple #[]) ∧ u' = .panicking ({ v := .iface 25 v, recovered := true } :: older) ∧ w' = w.setCell p (.bool true) := by
  refine callsD_of_wpS Try.func75 rfl fun c₀ cs hu => ?_
  apply wpS_region
  simp [wpOpsS, go_sem, recoverD, hu, assert_clue, assert_nil, five_undef, Try.ntmps75, hc, hz, bodyPostS, results, Try.results75]

theorem catchCl_idle (p : Addr) (x : Bool) (w : World) (hc : w.cell? p = some (.bool x)) (hz : w.frozen? p = false) :
    CallsD Try.prog 75 #[.pointer (some p)] .returning w fun e u' w' => e = .returned (.tuple #[]) ∧ u' = .returning ∧ w' = w.setCell p (.bool false) := by
  refine callsD_of_wpS Try.func75 rfl fun c₀ cs hu => ?_
  apply wpS_region
  simp [wpOpsS, go_sem, recoverD, hu, assert_clue, assert_nil, five_undef, Try.ntmps75, hc, hz, bodyPostS, results, Try.results75]
  cases c₀; simp_all

set_option maxHeartbeats 1600000 in
theorem turnsAway_any (p : Int) (A : Option Addr) (n c : Nat) (cs : List Cl) (w : World) (hA : Holds w A (clsC cs)) (hx : cs.length = n) (hn : n ≤ 1048576) (hp1 : 1 ≤ p) (hp4 : p ≤ 4) :
    Calls Try.prog 58 #[.int .i64 p, .slice A n c] w fun e w' => e = .returned (.bool (!cs.all (clOk p))) ∧ Below w.heap.size w w' := by
  subst hx
  have hmf : ∀ (fn : Fn) (first cap : Array Value) (w : World), (Instr.makeFunc fn first cap).run Try.prog w = .ok (.func fn first cap) w := fun _ _ _ _ => rfl
  have hbl := below1 w (.cells #[.bool false] 4)
  have hw0 := Whole.fresh w 4 #[.bool false]
  obtain ⟨W, hW⟩ : ∃ W, W = w.alloc (.cells #[.bool false] 4) := ⟨_, rfl⟩
  have hAW : Holds W A (clsC cs) := by rw [hW]; exact hA.below hbl
  rw [← hW] at hw0 hbl
  have HAW := Lib.hid hAW
  have HB := Lib.hid hbl
  have H0 := Lib.hid hw0
  have HWW := Lib.hid hW
  clear hbl hA hAW hW hw0
  go_enter_defers Try.func58, Try.ntmps58
  go_wp2_with fail
  rw [← HWW.out]
  go_loopw [10] (fun i wr => ∃ k : Nat, i = .int .i64 k ∧ k ≤ cs.length ∧ Below W.heap.size W wr ∧ ∀ j (h : j < cs.length), j < k → clOk p cs[j] = true) (fun i _ => cs.length - (intOf i).toNat)
  case atStart => exact ⟨0, rfl, by omega, Below.refl _ _, fun j h1 h2 => absurd h2 (by omega)⟩
  case round =>
    obtain ⟨k, rfl, hk, hb, hall⟩ := hrel
    have HALL := Lib.hid hall
    clear hall
    have hbs : w.heap.size ≤ W.heap.size := HB.out.size
    by_cases hlt : k < cs.length
    · obtain ⟨g, o, rfl, hg, c0, c1, c2⟩ := cls_look (HAW.out.below hb) hlt
      obtain ⟨⟨x1, x2, x3⟩, hx⟩ : ∃ x, x = cs[k] := ⟨_, rfl⟩
      rw [← hx] at c0 c1 c2
      dsimp only at c0 c1 c2
      have hw1 := H0.out.below hb
      have hgw : w.heap.size < wr.heap.size := hw1.lt
      have hkl : (k : Int) < cs.length := by omega
      have hb1 : Below W.heap.size W (wr.alloc (.cells #[.int .i64 x1, .int .i64 x2, .int .i64 x3] 25)) := hb.alloc hb.size _
      have HB1 := Lib.hid hb1
      have HW2 := Lib.hid (hw1.alloc (.cells #[.int .i64 x1, .int .i64 x2, .int .i64 x3] 25))
      cases hok : clOk p (x1, x2, x3)
      · have HP2 := Lib.hid (all_no (p := p) (k := k) hlt (by rw [← hx]; exact hok))
        have HOK := Lib.hid hok
        clear hx hok hw1 hb hb1
        go_wp2_with fail
        refine (checkClue_no p x1 x2 x3 _ hp1 hp4 HOK.out).mono ?_
        rintro e w2 ⟨rfl, hb2⟩
        have hc2 := (HW2.out.below hb2).cells1
        have hf2 := (HW2.out.below hb2).open_ 0
        have hc3 := (show Whole (w2.setCell ⟨w.heap.size, 0, none⟩ (.bool true)) w.heap.size 4 #[.bool true] from (HW2.out.below hb2).set_ 0 (.bool true)).cells1
        have HF := Lib.hid (HB.out.trans ((HB1.out.trans (hb2.mono HB1.out.size)).mono hbs))
        clear hb2
        go_wp2_with fail
        refine leaves_cons (f := 75) (args := #[.pointer (some ⟨w.heap.size, 0, none⟩)]) (by simp) (by simp [go_sem]) ?_
        refine (catchCl_panicking ⟨w.heap.size, 0, none⟩ false _ [] _ hc2 hf2).mono ?_
        rintro e u' w'' ⟨rfl, rfl, rfl⟩
        simp [Leaves, settle, results, Try.results58, go_sem, hc3, HP2.out]
        exact below_set HF.out (Nat.le_refl _)
      · have HOK := Lib.hid hok
        have HX := Lib.hid hx
        clear hx hok hw1 hb hb1
        go_wp2_with fail
        refine (checkClue_yes p x1 x2 x3 _ hp1 hp4 HOK.out).mono ?_
        rintro e w2 ⟨rfl, hb2⟩
        have HF := Lib.hid (HB1.out.trans (hb2.mono HB1.out.size))
        clear hb2
        go_wp2
        go_roundw
        case rel => exact ⟨k + 1, by go_num, by omega, HF.out, fun j h1 h2 => by
          rcases Nat.lt_or_ge j k with h3 | h3
          · exact HALL.out j h1 h3
          · obtain rfl : j = k := by omega
            rw [← HX.out]; exact HOK.out⟩
        case measure => simp [intOf]; omega
    · have HP2 := Lib.hid (all_yes (p := p) (cs := cs) fun j hj => HALL.out j hj (by omega))
      have hw1 := H0.out.below hb
      have hc2 := hw1.cells1
      have hf2 := hw1.open_ 0
      have hc3 := (show Whole (wr.setCell ⟨w.heap.size, 0, none⟩ (.bool false)) w.heap.size 4 #[.bool false] from hw1.set_ 0 (.bool false)).cells1
      have HF := Lib.hid (below_then HB.out hb HB.out.size)
      clear hb hw1
      go_wp2_with fail
      refine leaves_cons (f := 75) (args := #[.pointer (some ⟨w.heap.size, 0, none⟩)]) (by simp) (by simp [go_sem]) ?_
      refine (catchCl_idle ⟨w.heap.size, 0, none⟩ false _ hc2 hf2).mono ?_
      rintro e u' w'' ⟨rfl, rfl, rfl⟩
      simp [Leaves, settle, results, Try.results58, go_sem, hc3, HP2.out]
      exact below_set HF.out (Nat.le_refl _)

set_option maxHeartbeats 800000 in
theorem isPuzzle_any (p : Int) (A : Option Addr) (n c : Nat) (cs : List Cl) (w : World) (hA : Holds w A (clsC cs)) (hx : cs.length = n) (hn : n ≤ 1048576) :
    Calls Try.prog 21 #[.agg #[.int .i64 p, .slice A n c]] w fun e w' => e = .returned (.bool (pzOk p cs)) ∧ Below w.heap.size w w' := by
  subst hx
  have hbl := below1 w (.cells #[.int .i64 p, .slice A cs.length c] 35)
  have HBL := Lib.hid hbl
  cases hpw : within p 1 4
  · have HP := Lib.hid (pzOk_people (cs := cs) hpw)
    have HW := Lib.hid hpw
    clear hpw hbl
    go_enter Try.func21, Try.ntmps21
    go_wp2_with (go_at_call 57; refine (canHide_any _ _).mono ?_; rintro e w' ⟨rfl, rfl⟩; rw [HW.out])
    go_ret
    exact ⟨ret_of (by rw [HP.out]; rfl), HBL.out⟩
  · by_cases hl : cs.length ≤ 6
    · have HP := Lib.hid (pzOk_all (cs := cs) hpw hl)
      obtain ⟨hp1, hp4⟩ := within_iff.1 hpw
      have HW := Lib.hid hpw
      have hl' : (cs.length : Int) ≤ 6 := by omega
      have HA := Lib.hid (hA.below hbl)
      clear hpw hbl hA
      go_enter Try.func21, Try.ntmps21
      go_wp2_with (go_at_call 57; refine (canHide_any _ _).mono ?_; rintro e w' ⟨rfl, rfl⟩; rw [HW.out])
      refine (turnsAway_any p A _ c cs _ HA.out rfl hn hp1 hp4).mono ?_
      rintro e w2 ⟨rfl, hb⟩
      have HF := Lib.hid (below_then HBL.out hb HBL.out.size)
      clear hb
      go_wp2
      go_ret
      exact ⟨ret_of (by rw [HP.out]; simp), HF.out⟩
    · have HP := Lib.hid (pzOk_long (p := p) (cs := cs) (by omega))
      have HW := Lib.hid hpw
      have hl' : ¬ (cs.length : Int) ≤ 6 := by omega
      clear hpw hbl
      go_enter Try.func21, Try.ntmps21
      go_wp2_with (go_at_call 57; refine (canHide_any _ _).mono ?_; rintro e w' ⟨rfl, rfl⟩; rw [HW.out])
      go_ret
      exact ⟨ret_of (by rw [HP.out]; rfl), HBL.out⟩

set_option maxHeartbeats 800000 in
theorem isClue_any (p k a b : Int) (w : World) :
    Calls Try.prog 17 #[.int .i64 p, .agg #[.int .i64 k, .int .i64 a, .int .i64 b]] w fun e w' => e = .returned (.bool (pzOk p [(k, a, b)])) ∧ Below w.heap.size w w' := by
  have hbl := below2 w (.cells #[.int .i64 k, .int .i64 a, .int .i64 b] 25) (.cells #[.int .i64 k, .int .i64 a, .int .i64 b] 25)
  have hh := (Whole.fresh (w.alloc (.cells #[.int .i64 k, .int .i64 a, .int .i64 b] 25)) 25 #[.int .i64 k, .int .i64 a, .int .i64 b]).holds
  rw [World.size_alloc] at hh
  go_enter Try.func17, Try.ntmps17
  go_wp2_with fail
  refine (isPuzzle_any p _ 1 1 [(k, a, b)] _ hh rfl (by omega)).mono ?_
  rintro e w2 ⟨rfl, hb⟩
  have HF := Lib.hid (below_then hbl hb hbl.size)
  clear hb
  go_wp2
  go_ret
  exact ⟨rfl, HF.out⟩
end Go.Proofs.Ytcoagbcleccmmaa

namespace Go.Proofs.Ytcoagbcleccmmaa
open Go.RowKit

set_option maxHeartbeats 1600000 in
theorem pzClue_any (p : Int) (c : Cl) (w : World) (hp : 1 ≤ p) (hp4 : p ≤ 4) :
    Calls Try.prog 53 #[.int .i64 p, .agg (clC c)] w fun e w' => e = .returned (.bool (clOk p c)) ∧ Below w.heap.size w w' := by
  obtain ⟨k, a, b⟩ := c
  have hbl := below1 w (.cells #[.int .i64 k, .int .i64 a, .int .i64 b] 25)
  have HBL := Lib.hid hbl
  change Calls Try.prog 53 #[.int .i64 p, .agg #[.int .i64 k, .int .i64 a, .int .i64 b]] w _
  clear hbl
  have hpw : IntKind.i64.wrap (p - 1) = p - 1 := IntWalk.i64_in _ (by omega)
  by_cases h0 : k = 0
  · subst h0
    cases hwa : within a 0 (p - 1)
    · have HA := Lib.hid hwa
      have HC : Hid (clOk p (0, a, b) = false) := by show _ = _; rw [clOk0, hwa]; rfl
      clear hwa
      go_enter Try.func53, Try.ntmps53
      go_wp2_with (go_at_call 70; refine (l1In_any _ _ _ _).mono ?_; rintro e w' ⟨rfl, rfl⟩; rw [HA.out])
      go_ret
      exact ⟨ret_of (by rw [HC.out]; rfl), HBL.out⟩
    · have HA := Lib.hid hwa
      have HC : Hid (clOk p (0, a, b) = within b 1 6) := by show _ = _; rw [clOk0, hwa]; rfl
      clear hwa
      go_enter Try.func53, Try.ntmps53
      go_wp2_with (go_at_call 70; refine (l1In_any _ _ _ _).mono ?_; rintro e w' ⟨rfl, rfl⟩; (try rw [HA.out]))
      go_ret
      exact ⟨ret_of (by rw [HC.out]; rfl), HBL.out⟩
  by_cases h4 : k = 4
  · subst h4
    cases hwa : within a 0 (p - 1)
    · have HA := Lib.hid hwa
      have HC : Hid (clOk p (4, a, b) = false) := by show _ = _; rw [clOk4, hwa]; rfl
      clear hwa
      go_enter Try.func53, Try.ntmps53
      go_wp2_with (go_at_call 70; refine (l1In_any _ _ _ _).mono ?_; rintro e w' ⟨rfl, rfl⟩; rw [HA.out])
      go_ret
      exact ⟨ret_of (by rw [HC.out]; rfl), HBL.out⟩
    · have HA := Lib.hid hwa
      have HC : Hid (clOk p (4, a, b) = within b 0 5) := by show _ = _; rw [clOk4, hwa]; rfl
      clear hwa
      go_enter Try.func53, Try.ntmps53
      go_wp2_with (go_at_call 70; refine (l1In_any _ _ _ _).mono ?_; rintro e w' ⟨rfl, rfl⟩; (try rw [HA.out]))
      go_ret
      exact ⟨ret_of (by rw [HC.out]; rfl), HBL.out⟩
  by_cases hb : b = 0
  · subst hb
    have e00 : within 0 0 0 = true := rfl
    by_cases h1 : k = 1
    · subst h1
      have HC : Hid (clOk p (1, a, 0) = within a 1 24) := by show _ = _; rw [clOk1, e00, Bool.and_true]
      clear h0 h4 e00
      go_enter Try.func53, Try.ntmps53
      go_wp2_with (go_at_call 70; refine (l1In_any _ _ _ _).mono ?_; rintro e w' ⟨rfl, rfl⟩)
      go_ret
      exact ⟨ret_of (by rw [HC.out]; rfl), HBL.out⟩
    by_cases h2 : k = 2
    · subst h2
      have HC : Hid (clOk p (2, a, 0) = within a 1 100) := by show _ = _; rw [clOk2, e00, Bool.and_true]
      clear h0 h4 e00 h1
      go_enter Try.func53, Try.ntmps53
      go_wp2_with (go_at_call 70; refine (l1In_any _ _ _ _).mono ?_; rintro e w' ⟨rfl, rfl⟩)
      go_ret
      exact ⟨ret_of (by rw [HC.out]; rfl), HBL.out⟩
    by_cases h3 : k = 3
    · subst h3
      have HC : Hid (clOk p (3, a, 0) = within a 1 100) := by show _ = _; rw [clOk3, e00, Bool.and_true]
      clear h0 h4 e00 h1 h2
      go_enter Try.func53, Try.ntmps53
      go_wp2_with (go_at_call 70; refine (l1In_any _ _ _ _).mono ?_; rintro e w' ⟨rfl, rfl⟩)
      go_ret
      exact ⟨ret_of (by rw [HC.out]; rfl), HBL.out⟩
    by_cases h5 : k = 5
    · subst h5
      have HC : Hid (clOk p (5, a, 0) = within a 0 p) := by show _ = _; rw [clOk5, e00, Bool.and_true]
      clear h0 h4 e00 h1 h2 h3
      go_enter Try.func53, Try.ntmps53
      go_wp2_with (go_at_call 70; refine (l1In_any _ _ _ _).mono ?_; rintro e w' ⟨rfl, rfl⟩)
      go_ret
      exact ⟨ret_of (by rw [HC.out]; rfl), HBL.out⟩
    have HC := Lib.hid (clOk_no (p := p) (a := a) (b := 0) h0 h1 h2 h3 h4 h5)
    go_enter Try.func53, Try.ntmps53
    go_wp2_with fail
    go_ret
    exact ⟨ret_of (by rw [HC.out]; rfl), HBL.out⟩
  · have HC := Lib.hid (clOk_b (p := p) (a := a) h0 h4 hb)
    go_enter Try.func53, Try.ntmps53
    go_wp2_with fail
    go_ret
    exact ⟨ret_of (by rw [HC.out]; rfl), HBL.out⟩

set_option maxHeartbeats 1600000 in
theorem pzGood_any (p : Int) (A : Option Addr) (n c : Nat) (cs : List Cl) (w : World) (hA : Holds w A (clsC cs)) (hx : cs.length = n) (hn : n ≤ 9223372036854775807) :
    Calls Try.prog 55 #[.agg #[.int .i64 p, .slice A n c]] w fun e w' => e = .returned (.bool (pzOk p cs)) ∧ Below w.heap.size w w' := by
  subst hx
  have hbl := below1 w (.cells #[.int .i64 p, .slice A cs.length c] 35)
  have HBL := Lib.hid hbl
  cases hpw : within p 1 4
  · have HP := Lib.hid (pzOk_people (cs := cs) hpw)
    have HW := Lib.hid hpw
    clear hpw hbl
    go_enter Try.func55, Try.ntmps55
    go_wp2_with (go_at_call 52; refine (pzPeople_any _ _).mono ?_; rintro e w' ⟨rfl, rfl⟩; rw [HW.out])
    go_ret
    exact ⟨ret_of (by rw [HP.out]; rfl), HBL.out⟩
  · by_cases hl : 6 < cs.length
    · have HP := Lib.hid (pzOk_long (p := p) hl)
      have HW := Lib.hid hpw
      have hl' : (6 : Int) < cs.length := by omega
      clear hpw hbl
      go_enter Try.func55, Try.ntmps55
      go_wp2_with (go_at_call 52; refine (pzPeople_any _ _).mono ?_; rintro e w' ⟨rfl, rfl⟩; rw [HW.out])
      go_ret
      exact ⟨ret_of (by rw [HP.out]; rfl), HBL.out⟩
    · have HP := Lib.hid (pzOk_all (cs := cs) hpw (by omega))
      have HW := Lib.hid hpw
      obtain ⟨hp1, hp4⟩ := within_iff.1 hpw
      have hl' : ¬ (6 : Int) < cs.length := by omega
      have hw0 := Whole.fresh w 35 #[.int .i64 p, .slice A cs.length c]
      obtain ⟨W, hW⟩ : ∃ W, W = w.alloc (.cells #[.int .i64 p, .slice A cs.length c] 35) := ⟨_, rfl⟩
      have hAW : Holds W A (clsC cs) := by rw [hW]; exact hA.below hbl
      rw [← hW] at hw0 hbl
      have HAW := Lib.hid hAW
      have HB := Lib.hid hbl
      have H0 := Lib.hid hw0
      have HWW := Lib.hid hW
      clear hpw hbl HBL hA hAW hW hw0
      go_enter Try.func55, Try.ntmps55
      go_wp2_with (go_at_call 52; refine (pzPeople_any _ _).mono ?_; rintro e w' ⟨rfl, rfl⟩; rw [HW.out])
      rw [← HWW.out]
      go_loopw [18] (fun i wr => ∃ k : Nat, i = .int .i64 k ∧ k ≤ cs.length ∧ Below W.heap.size W wr ∧ ∀ j (h : j < cs.length), j < k → clOk p cs[j] = true) (fun i _ => cs.length - (intOf i).toNat)
      case atStart => exact ⟨0, rfl, by omega, Below.refl _ _, fun j h1 h2 => absurd h2 (by omega)⟩
      case round =>
        obtain ⟨k, rfl, hk, hb, hall⟩ := hrel
        have HALL := Lib.hid hall
        clear hall
        by_cases hlt : k < cs.length
        · obtain ⟨g, o, rfl, hg, c0, c1, c2⟩ := cls_look (HAW.out.below hb) hlt
          obtain ⟨⟨x1, x2, x3⟩, hx⟩ : ∃ x, x = cs[k] := ⟨_, rfl⟩
          rw [← hx] at c0 c1 c2
          dsimp only at c0 c1 c2
          have hw1 := H0.out.below hb
          obtain ⟨d0, d1⟩ := hw1.cells2
          have hgw : w.heap.size < wr.heap.size := hw1.lt
          have hkl : (k : Int) < cs.length := by omega
          have hb1 : Below W.heap.size W (wr.alloc (.cells #[.int .i64 x1, .int .i64 x2, .int .i64 x3] 25)) := hb.alloc hb.size _
          have HB1 := Lib.hid hb1
          have hbs : w.heap.size ≤ W.heap.size := HB.out.size
          cases hok : clOk p (x1, x2, x3)
          · have HP2 := Lib.hid (HP.out.trans (all_no (p := p) (k := k) hlt (by rw [← hx]; exact hok)))
            have HOK := Lib.hid hok
            clear hx hok hw1 hb hb1
            go_wp2_with fail
            refine (pzClue_any p (x1, x2, x3) _ hp1 hp4).mono ?_
            rintro e w2 ⟨rfl, hb2⟩
            rw [HOK.out]
            have HF := Lib.hid (HB.out.trans ((HB1.out.trans (hb2.mono HB1.out.size)).mono hbs))
            clear hb2
            go_wp2
            go_ret
            exact ⟨ret_of (by rw [HP2.out]; rfl), HF.out⟩
          · have HOK := Lib.hid hok
            have HX := Lib.hid hx
            clear hx hok hw1 hb hb1
            go_wp2_with fail
            refine (pzClue_any p (x1, x2, x3) _ hp1 hp4).mono ?_
            rintro e w2 ⟨rfl, hb2⟩
            rw [HOK.out]
            have HF := Lib.hid (HB1.out.trans (hb2.mono HB1.out.size))
            clear hb2
            go_wp2
            go_roundw
            case rel => exact ⟨k + 1, by go_num, by omega, HF.out, fun j h1 h2 => by
              rcases Nat.lt_or_ge j k with h3 | h3
              · exact HALL.out j h1 h3
              · obtain rfl : j = k := by omega
                rw [← HX.out]; exact HOK.out⟩
            case measure => simp [intOf]; omega
        · have HP2 := Lib.hid (HP.out.trans (all_yes (p := p) fun j hj => HALL.out j hj (by omega)))
          have HF := Lib.hid (below_then HB.out hb HB.out.size)
          clear hb
          go_wp2
          go_ret
          exact ⟨ret_of (by rw [HP2.out]; rfl), HF.out⟩

set_option maxHeartbeats 400000 in
theorem specIsPuzzle_any (p : Int) (A : Option Addr) (n c : Nat) (cs : List Cl) (w : World) (hA : Holds w A (clsC cs)) (hx : cs.length = n) (hn : n ≤ 1048576) :
    Calls Try.prog 19 #[.agg #[.int .i64 p, .slice A n c]] w fun e w' => e = .returned (.bool (pzOk p cs)) ∧ Below w.heap.size w w' := by
  have hbl := below1 w (.cells #[.int .i64 p, .slice A n c] 35)
  have HBL := Lib.hid hbl
  have HA := Lib.hid (hA.below hbl)
  clear hbl hA
  go_enter Try.func19, Try.ntmps19
  go_wp2_with fail
  refine (pzGood_any p A n c cs _ HA.out hx (by omega)).mono ?_
  rintro e w2 ⟨rfl, hb⟩
  have HF := Lib.hid (below_then HBL.out hb HBL.out.size)
  clear hb
  go_wp2
  go_ret
  exact ⟨rfl, HF.out⟩

theorem pzOk_one (p : Int) (c : Cl) : pzOk p [c] = (within p 1 4 && clOk p c) := by simp [pzOk]
set_option maxHeartbeats 400000 in
theorem specIsClue_any (p k a b : Int) (w : World) :
    Calls Try.prog 15 #[.int .i64 p, .agg #[.int .i64 k, .int .i64 a, .int .i64 b]] w fun e w' => e = .returned (.bool (pzOk p [(k, a, b)])) ∧ Below w.heap.size w w' := by
  have hbl := below1 w (.cells #[.int .i64 k, .int .i64 a, .int .i64 b] 25)
  have HBL := Lib.hid hbl
  clear hbl
  have HP := Lib.hid (pzOk_one p (k, a, b))
  cases hpw : within p 1 4
  · have HW := Lib.hid hpw
    clear hpw
    go_enter Try.func15, Try.ntmps15
    go_wp2_with (go_at_call 52; refine (pzPeople_any _ _).mono ?_; rintro e w' ⟨rfl, rfl⟩; rw [HW.out])
    go_ret
    exact ⟨ret_of (by rw [HP.out, HW.out]; rfl), HBL.out⟩
  · obtain ⟨hp1, hp4⟩ := within_iff.1 hpw
    have HW := Lib.hid hpw
    clear hpw
    go_enter Try.func15, Try.ntmps15
    go_wp2_with (go_at_call 52; refine (pzPeople_any _ _).mono ?_; rintro e w' ⟨rfl, rfl⟩; rw [HW.out])
    refine (pzClue_any p (k, a, b) _ hp1 hp4).mono ?_
    rintro e w2 ⟨rfl, hb⟩
    have HF := Lib.hid (below_then HBL.out hb HBL.out.size)
    clear hb
    go_wp2
    go_ret
    exact ⟨ret_of (by rw [HP.out, HW.out]; rfl), HF.out⟩
end Go.Proofs.Ytcoagbcleccmmaa

namespace Go.Proofs.Ytcoagbcleccmmaa
open Go.RowKit

/-- Are two lists of numbers one and the same? -/
def sameBits (a b : List Bool) : Bool := a == b
theorem sameBits_yes {a b : List Bool} (h : a = b) : sameBits a b = true := by simp [sameBits, h]
theorem sameBits_no {a b : List Bool} (h : a ≠ b) : sameBits a b = false := by simp [sameBits, h]

theorem take_nextB {a b : List Bool} {k : Nat} (ha : k < a.length) (hb : k < b.length) (h : a.take k = b.take k) (he : a[k] = b[k]) : a.take (k + 1) = b.take (k + 1) := by
  rw [List.take_succ_eq_append_getElem ha, List.take_succ_eq_append_getElem hb, h, he]

/-- What stands in the copy behind k rounds: the first k numbers, zeros behind them. -/
def filledB (xs : List Bool) (k : Nat) : Array Value := (bits (xs.take k ++ List.replicate (xs.length - k) false)).toArray
theorem filledB_done (xs : List Bool) : filledB xs xs.length = (bits xs).toArray := by simp [filledB]
theorem filledB_at (xs : List Bool) {k : Nat} (h : k < xs.length) : (filledB xs k)[k]? = some (.bool false) := by
  simp only [filledB, bits, List.getElem?_toArray, List.getElem?_map]
  rw [List.getElem?_append_right (by simp; omega)]
  simp [List.length_take, Nat.min_eq_left (Nat.le_of_lt h), List.getElem?_replicate]
  omega
theorem filledB_next (xs : List Bool) {k : Nat} (h : k < xs.length) : (filledB xs k).setIfInBounds k (.bool xs[k]) = filledB xs (k + 1) := by
  apply Array.ext_getElem?
  intro j
  have hk : (xs.take k).length = k := by simp; omega
  have hk1 : (xs.take (k + 1)).length = k + 1 := by simp; omega
  rw [Array.getElem?_setIfInBounds]
  simp only [filledB, bits, List.getElem?_toArray, List.getElem?_map, List.size_toArray, List.length_map, List.length_append, hk, List.length_replicate]
  by_cases hj : k = j
  · subst hj
    rw [if_pos rfl, if_pos (by omega), List.getElem?_append_left (by omega)]
    simp [h]
  · rw [if_neg hj]
    by_cases hlt : j < k
    · rw [List.getElem?_append_left (by omega), List.getElem?_append_left (by omega)]
      simp [hlt, Nat.lt_succ_of_lt hlt]
    · rw [List.getElem?_append_right (by omega), List.getElem?_append_right (by omega), hk, hk1]
      simp only [List.getElem?_replicate]
      by_cases hn : j < xs.length
      · rw [if_pos (by omega), if_pos (by omega)]
      · rw [if_neg (by omega), if_neg (by omega)]

theorem made_falses (n : Nat) : madeCells (Value.bool false).cells (n * 1) = (bits (List.replicate n false)).toArray := by
  apply Array.ext_getElem?
  intro j
  simp [madeCells, bits, Value.cells, Nat.mod_one, Array.getElem?_range]
  by_cases h : j < n <;> simp [h]

theorem info_bool : (Try.prog.info? 4).map (fun i => (i.zero, i.size, i.bytes)) = some (some (.bool false), 1, 1) := by kernel_rfl

end Go.Proofs.Ytcoagbcleccmmaa

namespace Go.Proofs.Ytcoagbcleccmmaa
open Go.RowKit

/-- A row of the call's own: it begins at the head of a block from lo on and before hi, and its first cells are xs. -/
def Fresh (w : World) (lo hi : Nat) (ty : TypeId) (A : Option Addr) (xs : List Value) : Prop :=
  xs = [] ∨ ∃ (g : Nat) (cs : Array Value), A = some ⟨g, 0, none⟩ ∧ lo ≤ g ∧ g < hi ∧ Whole w g ty cs ∧ xs.length ≤ cs.size ∧ cs.toList.take xs.length = xs
/-- Of what was there, only blocks from lo on and before hi may have turned. -/
structure Span (lo hi : Nat) (w w' : World) : Prop where
  os : w'.os = w.os
  tape : w'.tape = w.tape
  output : w'.output = w.output
  size : w.heap.size ≤ w'.heap.size
  block : ∀ k, k < w.heap.size → (k < lo ∨ hi ≤ k) → w'.heap[k]? = w.heap[k]?

section
variable {w w' : World} {lo hi lo' hi' B : Nat} {ty : TypeId} {A : Option Addr} {xs : List Value}
theorem Span.refl (lo hi : Nat) (w : World) : Span lo hi w w := ⟨rfl, rfl, rfl, Nat.le_refl _, fun _ _ _ => rfl⟩
theorem Span.of_below (h : Below w.heap.size w w') (lo hi : Nat) : Span lo hi w w' := ⟨h.os, h.tape, h.output, h.size, fun k hk _ => h.block k hk⟩
theorem Span.trans {a b c : World} (h : Span lo hi a b) (k : Span lo hi b c) : Span lo hi a c :=
  ⟨k.os.trans h.os, k.tape.trans h.tape, k.output.trans h.output, Nat.le_trans h.size k.size, fun i hi hne => (k.block i (Nat.lt_of_lt_of_le hi h.size) hne).trans (h.block i hi hne)⟩
theorem Span.below {a : World} (h : Span lo hi w w') (hb : Below B a w) (hB : B ≤ lo) (hs : B ≤ w.heap.size) : Below B a w' :=
  hb.trans ⟨h.os, h.tape, h.output, h.size, fun k hk => h.block k (by omega) (.inl (by omega))⟩
theorem Span.whole {g : Nat} {cs : Array Value} (h : Span lo hi w w') (hw : Whole w g ty cs) (hg : g < lo ∨ hi ≤ g) : Whole w' g ty cs := (h.block g hw.lt hg).trans hw
theorem Span.fresh (h : Span lo hi w w') (hf : Fresh w lo' hi' ty A xs) (hd : hi' ≤ lo ∨ hi ≤ lo') : Fresh w' lo' hi' ty A xs := by
  rcases hf with rfl | ⟨g, cs, hA, h1, h2, hw, h3, h4⟩
  · exact .inl rfl
  · exact .inr ⟨g, cs, hA, h1, h2, h.whole hw (by omega), h3, h4⟩
theorem Fresh.below (hf : Fresh w lo hi ty A xs) (h : Below w.heap.size w w') : Fresh w' lo hi ty A xs := by
  rcases hf with rfl | ⟨g, cs, hA, h1, h2, hw, h3, h4⟩
  · exact .inl rfl
  · exact .inr ⟨g, cs, hA, h1, h2, hw.below h, h3, h4⟩
theorem Fresh.alloc (hf : Fresh w lo hi ty A xs) (o : Obj) : Fresh (w.alloc o) lo hi ty A xs := hf.below (below1 w o)
theorem Fresh.drew (hf : Fresh w lo hi ty A xs) : Fresh w.drew lo hi ty A xs := hf
theorem Fresh.more (hf : Fresh w lo hi ty A xs) (h1 : lo' ≤ lo) (h2 : hi ≤ hi') : Fresh w lo' hi' ty A xs := by
  rcases hf with rfl | ⟨g, cs, hA, h3, h4, hw, h5, h6⟩
  · exact .inl rfl
  · exact .inr ⟨g, cs, hA, by omega, by omega, hw, h5, h6⟩
theorem Fresh.holds (hf : Fresh w lo hi ty A xs) : Holds w A xs := by
  rcases hf with rfl | ⟨g, cs, hA, -, -, hw, -, h4⟩
  · exact .inl rfl
  · refine .inr ⟨g, 0, hA, hw.lt, fun j u hu => ?_⟩
    have hj : j < xs.length := (List.getElem?_eq_some_iff.1 hu).1
    rw [Nat.zero_add, hw.cell j, ← hu]
    have := congrArg (fun l : List Value => l[j]?) h4
    simpa [List.getElem?_take, hj] using this
theorem Fresh.of_whole {g : Nat} (hw : Whole w g ty xs.toArray) (h1 : lo ≤ g) (h2 : g < hi) : Fresh w lo hi ty (some ⟨g, 0, none⟩) xs :=
  .inr ⟨g, _, rfl, h1, h2, hw, by simp, by simp⟩
theorem Fresh.of_own {n : Nat} {v : Value} (h : w.ownsRow lo ty 1 v n xs) (hs : w.heap.size ≤ hi) : ∃ (A : Option Addr) (c : Nat), v = .slice A n c ∧ Fresh w lo hi ty A xs := by
  obtain ⟨hl, h⟩ := h
  rcases h with ⟨hv, hn⟩ | ⟨g, cap, cur, hv, hg, hh, h1, h2, h3, h4⟩
  · subst hn
    exact ⟨none, 0, hv, .inl (List.eq_nil_of_length_eq_zero (by simpa using hl))⟩
  · have hw : Whole w g ty cur := hh
    refine ⟨_, cap, hv, .inr ⟨g, cur, rfl, hg, Nat.lt_of_lt_of_le hw.lt hs, hw, by omega, ?_⟩⟩
    rw [hl]
    exact h4
end

def marksI (k : Int) (n : Nat) : List Int := (List.range n).map fun (i : Nat) => k + (i : Int)
def marksB (k : Int) (n : Nat) : List Bool := (List.range n).map fun (i : Nat) => (k + (i : Int)) % 3 == 0
theorem marksI_len (k : Int) (n : Nat) : (marksI k n).length = n := by simp [marksI]
theorem marksB_len (k : Int) (n : Nat) : (marksB k n).length = n := by simp [marksB]

/-- The first k cells overwritten by the count from q on. -/
def marked (f : Nat → Value) (cs : Array Value) (k : Nat) : Array Value := ((List.range k).map f ++ cs.toList.drop k).toArray
theorem marked_zero (f : Nat → Value) (cs : Array Value) : marked f cs 0 = cs := by simp [marked]
theorem marked_at (f : Nat → Value) (cs : Array Value) {k : Nat} (h : k < cs.size) : ∃ u, (marked f cs k)[k]? = some u := by
  refine ⟨cs[k], ?_⟩
  simp only [marked, List.getElem?_toArray]
  rw [List.getElem?_append_right (by simp)]
  simp [h]
theorem marked_next (f : Nat → Value) (cs : Array Value) {k : Nat} (h : k < cs.size) : (marked f cs k).setIfInBounds k (f k) = marked f cs (k + 1) := by
  apply Array.ext_getElem?
  intro j
  rw [Array.getElem?_setIfInBounds]
  simp only [marked, List.getElem?_toArray, List.size_toArray, List.length_append, List.length_map, List.length_range, List.length_drop, Array.length_toList]
  by_cases hj : k = j
  · subst hj
    rw [if_pos rfl, if_pos (by omega), List.getElem?_append_left (by simp)]
    simp
  · rw [if_neg hj]
    by_cases hlt : j < k
    · rw [List.getElem?_append_left (by simpa using hlt), List.getElem?_append_left (by simp; omega)]
      simp [hlt, Nat.lt_succ_of_lt hlt]
    · rw [List.getElem?_append_right (by simp; omega), List.getElem?_append_right (by simp; omega)]
      simp only [List.length_map, List.length_range, List.getElem?_drop]
      congr 1
      omega
theorem marked_take (f : Nat → Value) (cs : Array Value) (n : Nat) : (marked f cs n).toList.take n = (List.range n).map f := by
  simp [marked]

set_option maxHeartbeats 800000 in
theorem markIntS_any (A : Option Addr) (n c lo hi : Nat) (xs : List Value) (q : Int) (w : World) (hf : Fresh w lo hi 3 A xs) (hx : xs.length = n) (h0 : 0 ≤ q) (h1 : q ≤ 4611686018427387904) (hn : n ≤ 1048576) :
    Calls Try.prog 41 #[.slice A n c, .int .i64 q] w fun e w' => e = .returned (.int .i64 (q + n)) ∧ Span lo hi w w' ∧ Fresh w' lo hi 3 A (nums (marksI q n)) := by
  subst hx
  rcases hf with rfl | ⟨g, cs, rfl, hlo, hhi, hw, hle, htk⟩
  · go_enter Try.func41, Try.ntmps41
    go_wp2
    refine wp_loop_rounds 1 ?_
    rw [rounds_succ]
    go_wp2
    go_ret
    exact ⟨ret_of (by simp), Span.refl _ _ _, .inl (by simp [marksI, nums])⟩
  · have HT := Lib.hid htk
    clear htk
    have hm0 : Whole w g 3 (marked (fun i : Nat => .int .i64 (q + (i : Int))) cs 0) := by rw [marked_zero]; exact hw
    have hgl := hw.lt
    go_enter Try.func41, Try.ntmps41
    go_wp2
    go_loopw [1, 5] (fun v i wr => ∃ k : Nat, k ≤ xs.length ∧ i = .int .i64 k ∧ v = .int .i64 (q + k) ∧ Whole wr g 3 (marked (fun i : Nat => .int .i64 (q + (i : Int))) cs k) ∧ Span lo hi w wr) (fun _ i _ => xs.length - (intOf i).toNat)
    case atStart => exact ⟨0, Nat.zero_le _, rfl, by simp, hm0, Span.refl _ _ _⟩
    case round =>
      obtain ⟨k, hk, rfl, rfl, hm, hs⟩ := hrel
      clear hm0 hw
      by_cases hlt : k < xs.length
      · obtain ⟨u, hu⟩ := marked_at (fun i : Nat => .int .i64 (q + (i : Int))) cs (show k < cs.size by omega)
        have hcell := (hm.cell k).trans hu
        have hfr := hm.open_ k
        have hset := hm.set_ k (.int .i64 (q + k))
        rw [marked_next (fun i : Nat => .int .i64 (q + (i : Int))) cs (show k < cs.size by omega)] at hset
        have hs' : Span lo hi w (wr.setCell ⟨g, k, none⟩ (.int .i64 (q + k))) :=
          hs.trans ⟨rfl, rfl, rfl, by simp [World.setCell], fun j _ hj => Below.heap_setCell _ _ _ _ (by show j ≠ g; omega)⟩
        clear hm hu hs
        have hq0 : (0 : Int) ≤ q + k := by omega
        go_wp2
        go_roundw
        case rel => exact ⟨k + 1, by omega, by go_num, by first | exact congrArg _ (by omega) | (simp; omega), hset, hs'⟩
        case measure => simp [intOf]; omega
      · have hkn : k = xs.length := by omega
        subst hkn
        go_wp2
        go_ret
        refine ⟨rfl, hs, .inr ⟨g, _, rfl, hlo, hhi, hm, ?_, ?_⟩⟩
        · simp [nums_len, marksI_len, marked]
        · rw [nums_len, marksI_len, marked_take _ _ _]
          simp [nums, marksI]

set_option maxHeartbeats 800000 in
theorem heldIntS_any (A : Option Addr) (n c : Nat) (q : Int) (w : World) (hA : Holds w A (nums (marksI q n))) (h0 : 0 ≤ q) (h1 : q ≤ 4611686018427387904) (hn : n ≤ 1048576) :
    Calls Try.prog 42 #[.slice A n c, .int .i64 q] w fun e w' => e = .returned (.int .i64 (q + n)) ∧ w = w' := by
  have hl := marksI_len q n
  have HL := Lib.hid hl
  clear hl
  go_enter Try.func42, Try.ntmps42
  go_wp2
  go_loop [1, 5] (fun v i => ∃ k : Nat, k ≤ n ∧ i = .int .i64 k ∧ v = .int .i64 (q + k)) (fun _ i => n - (intOf i).toNat)
  case atStart => exact ⟨0, Nat.zero_le _, rfl, by simp⟩
  case round =>
    obtain ⟨k, hk, rfl, rfl⟩ := hrel
    by_cases hlt : k < n
    · obtain ⟨b, o, rfl, hb, hc⟩ := hA.look (k := k) (by rw [nums_len, HL.out]; exact hlt)
      have hv : (nums (marksI q n))[k]'(by rw [nums_len, HL.out]; exact hlt) = .int .i64 (q + (k : Int)) := by simp [nums, marksI]
      rw [hv] at hc
      clear hv
      have hq0 : (0 : Int) ≤ q + k := by omega
      go_wp2
      go_round
      case rel => exact ⟨k + 1, by omega, by go_num, by first | exact congrArg _ (by omega) | (simp; omega)⟩
      case measure => simp [intOf]; omega
    · have hkn : k = n := by omega
      subst hkn
      go_wp2
      go_ret
      exact ⟨rfl, rfl⟩

end Go.Proofs.Ytcoagbcleccmmaa

namespace Go.Proofs.Ytcoagbcleccmmaa
open Go.RowKit

/-- One list among others: where it lies, its length, its room, its numbers. -/
structure RowV where
  A : Option Addr
  n : Nat
  c : Nat
  xs : List Int
def RowV.val (r : RowV) : Value := .slice r.A r.n r.c
def rowVals (rs : List RowV) : List Value := rs.map RowV.val
def rowNums (rs : List RowV) : List (List Int) := rs.map RowV.xs
theorem rowVals_len (rs : List RowV) : (rowVals rs).length = rs.length := by simp [rowVals]
theorem rowNums_len (rs : List RowV) : (rowNums rs).length = rs.length := by simp [rowNums]
def RowOk (w : World) (r : RowV) : Prop := Holds w r.A (nums r.xs) ∧ r.xs.length = r.n ∧ r.n ≤ 9223372036854775807
/-- From A on the world holds these lists. -/
def Grid (w : World) (A : Option Addr) (rs : List RowV) : Prop := Holds w A (rowVals rs) ∧ ∀ r ∈ rs, RowOk w r
theorem RowOk.below {w w' : World} {r : RowV} (h : RowOk w r) (hb : Below w.heap.size w w') : RowOk w' r := ⟨h.1.below hb, h.2⟩
theorem Grid.below {w w' : World} {A : Option Addr} {rs : List RowV} (h : Grid w A rs) (hb : Below w.heap.size w w') : Grid w' A rs := ⟨h.1.below hb, fun r hr => (h.2 r hr).below hb⟩
theorem Grid.alloc {w : World} {A : Option Addr} {rs : List RowV} (h : Grid w A rs) (o : Obj) : Grid (w.alloc o) A rs := h.below (below1 w o)
theorem Grid.drew {w : World} {A : Option Addr} {rs : List RowV} (h : Grid w A rs) : Grid w.drew A rs := h
theorem Grid.look {w : World} {A : Option Addr} {rs : List RowV} (h : Grid w A rs) {k : Nat} (hk : k < rs.length) :
    ∃ b o, A = some ⟨b, o, none⟩ ∧ b < w.heap.size ∧ w.cell? ⟨b, o + k, none⟩ = some (.slice rs[k].A rs[k].n rs[k].c) ∧ RowOk w rs[k] := by
  obtain ⟨b, o, hA, hb, hc⟩ := h.1.look (k := k) (by rw [rowVals_len]; exact hk)
  refine ⟨b, o, hA, hb, ?_, h.2 _ (List.getElem_mem hk)⟩
  rw [hc]
  simp [rowVals, RowV.val]

/-- The lengths of the first k lists together. -/
def part (rs : List RowV) (k : Nat) : Nat := ((rs.take k).map RowV.n).sum
/-- The length and all lengths together. -/
def total (rs : List RowV) : Nat := rs.length + part rs rs.length
theorem part_zero (rs : List RowV) : part rs 0 = 0 := rfl
theorem part_next {rs : List RowV} {k : Nat} (hk : k < rs.length) : part rs (k + 1) = part rs k + rs[k].n := by
  rw [part, part, List.take_succ_eq_append_getElem hk, List.map_append, List.sum_append]
  simp
theorem part_le {rs : List RowV} : ∀ {k : Nat}, k ≤ rs.length → ∀ {j : Nat}, j ≤ k → part rs j ≤ part rs k
  | 0, _, j, hj => by obtain rfl : j = 0 := by omega
                      exact Nat.le_refl _
  | k + 1, hk, j, hj => by
    rcases Nat.lt_or_ge j (k + 1) with h | h
    · have h1 := part_le (rs := rs) (k := k) (by omega) (j := j) (by omega)
      have h2 := part_next (rs := rs) (k := k) (by omega)
      omega
    · obtain rfl : j = k + 1 := by omega
      exact Nat.le_refl _
theorem total_row {rs : List RowV} {k : Nat} (hk : k < rs.length) : rs[k].n ≤ total rs := by
  have h1 := part_next hk
  have h2 := part_le (rs := rs) (Nat.le_refl _) (j := k + 1) (by omega)
  unfold total
  omega
theorem total_len (rs : List RowV) : rs.length ≤ total rs := by unfold total; omega
def totalLeft (rs : List RowV) (l : Int) : Int := if l < (total rs : Int) then -1 else l - (total rs : Int)
theorem totalLeft_no {rs : List RowV} {l : Int} {k : Nat} (hk : k ≤ rs.length) (h : l < (rs.length : Int) + (part rs k : Int)) : totalLeft rs l = -1 := by
  have h2 := part_le (rs := rs) (Nat.le_refl _) (j := k) hk
  rw [totalLeft, if_pos (by unfold total; omega)]
theorem totalLeft_yes {rs : List RowV} {l : Int} (h : (rs.length : Int) + (part rs rs.length : Int) ≤ l) : totalLeft rs l = l - ((rs.length : Int) + (part rs rs.length : Int)) := by
  rw [totalLeft, if_neg (by unfold total; omega)]
  unfold total
  omega

end Go.Proofs.Ytcoagbcleccmmaa

namespace Go.Proofs.Ytcoagbcleccmmaa
open Go.RowKit

/-- The numbers of clues, one behind the other. -/
def flat (cs : List Cl) : List Int := cs.flatMap fun c => [c.1, c.2.1, c.2.2]
theorem clsC_flat (cs : List Cl) : clsC cs = nums (flat cs) := by
  induction cs with
  | nil => rfl
  | cons c cs ih =>
    show (clC c).toList ++ clsC cs = _
    rw [ih]
    simp [flat, nums, clC]
theorem flat_len (cs : List Cl) : (flat cs).length = cs.length * 3 := by
  have h := clsC_len cs
  rw [clsC_flat, nums_len] at h
  exact h
theorem flat_get {cs : List Cl} {k : Nat} (hk : k < cs.length) :
    (flat cs)[k * 3]'(by rw [flat_len]; omega) = cs[k].1 ∧ (flat cs)[k * 3 + 1]'(by rw [flat_len]; omega) = cs[k].2.1 ∧ (flat cs)[k * 3 + 2]'(by rw [flat_len]; omega) = cs[k].2.2 := by
  have h0 := clsC_at (cs := cs) hk (j := 0) (by omega)
  have h1 := clsC_at (cs := cs) hk (j := 1) (by omega)
  have h2 := clsC_at (cs := cs) hk (j := 2) (by omega)
  simp only [clsC_flat, nums, List.getElem?_map, List.getElem?_eq_getElem (show k * 3 + 0 < (flat cs).length by rw [flat_len]; omega), List.getElem?_eq_getElem (show k * 3 + 1 < (flat cs).length by rw [flat_len]; omega), List.getElem?_eq_getElem (show k * 3 + 2 < (flat cs).length by rw [flat_len]; omega), clC, Option.map_some] at h0 h1 h2
  simp at h0 h1 h2
  exact ⟨h0, h1, h2⟩
theorem filled_row {cs : List Cl} {k : Nat} (hk : k < cs.length) : (((filled (flat cs) (k * 3)).setIfInBounds (k * 3) (.int .i64 cs[k].1)).setIfInBounds (k * 3 + 1) (.int .i64 cs[k].2.1)).setIfInBounds (k * 3 + 2) (.int .i64 cs[k].2.2) = filled (flat cs) ((k + 1) * 3) := by
  obtain ⟨h0, h1, h2⟩ := flat_get hk
  rw [← h0, ← h1, ← h2, filled_next _ (by rw [flat_len]; omega), filled_next _ (by rw [flat_len]; omega), filled_next _ (by rw [flat_len]; omega)]
  rw [show k * 3 + 2 + 1 = (k + 1) * 3 by omega]
theorem filled_some (xs : List Int) (k : Nat) {j : Nat} (hj : j < xs.length) : ∃ u, (filled xs k)[j]? = some u := by
  have h : j < (filled xs k).size := by simp [filled, nums]; omega
  exact ⟨_, Array.getElem?_eq_getElem h⟩
theorem made_zeros3 (n : Nat) : madeCells (Value.agg #[.int .i64 0, .int .i64 0, .int .i64 0]).cells (n * 3) = (nums (List.replicate (n * 3) 0)).toArray := by
  apply Array.ext_getElem?
  intro j
  have hm : j % 3 = 0 ∨ j % 3 = 1 ∨ j % 3 = 2 := by omega
  simp only [madeCells, nums, Value.cells]
  by_cases h : j < n * 3
  · rcases hm with hm | hm | hm <;> simp [h, hm]
  · simp [h]
theorem info_clue : (Try.prog.info? 25).map (fun i => (i.zero, i.size, i.bytes)) = some (some (.agg #[.int .i64 0, .int .i64 0, .int .i64 0]), 3, 24) := by kernel_rfl

set_option maxHeartbeats 400000 in
theorem toClue_any (k a b : Int) (w : World) : Calls Try.prog 16 #[.agg #[.int .i64 k, .int .i64 a, .int .i64 b]] w fun e w' => e = .returned (.agg #[.int .i64 k, .int .i64 a, .int .i64 b]) ∧ Below w.heap.size w w' := by
  go_enter Try.func16, Try.ntmps16
  go_wp2
  exact bodyPost_ret (v := .agg #[.int .i64 k, .int .i64 a, .int .i64 b]) (by simp [results, Try.results16, go_sem]) rfl ⟨rfl, below3 w _ _ _⟩

set_option maxHeartbeats 400000 in
theorem szClueS_any (A : Option Addr) (n c : Nat) (l : Int) (w : World) (hn : n ≤ 9223372036854775807) (h0 : 0 ≤ l) (h1 : l ≤ 1048576) :
    Calls Try.prog 54 #[.slice A n c, .int .i64 l] w fun e w' => e = .returned (.int .i64 (if l < n then -1 else l - n)) ∧ w = w' := by
  by_cases h : l < n
  · have h' : l - n < 0 := by omega
    go_enter Try.func54, Try.ntmps54
    go_wp2
    go_ret
    exact ⟨rfl, rfl⟩
  · have h' : ¬ l - n < 0 := by omega
    go_enter Try.func54, Try.ntmps54
    go_wp2
    go_ret
    exact ⟨rfl, rfl⟩

set_option maxHeartbeats 400000 in
theorem szPuzzle_any (s : Int) (A : Option Addr) (n c : Nat) (l : Int) (w : World) (hn : n ≤ 9223372036854775807) (h0 : 0 ≤ l) (h1 : l ≤ 1048576) :
    Calls Try.prog 18 #[.agg #[.int .i64 s, .slice A n c], .int .i64 l] w fun e w' => e = .returned (.int .i64 (if l < n then -1 else l - n)) ∧ Below w.heap.size w w' := by
  by_cases h : l < n
  all_goals
    go_enter Try.func18, Try.ntmps18
    go_wp2_with fail
    refine (szClueS_any A n c l _ hn h0 h1).mono ?_
    rintro e w' ⟨rfl, rfl⟩
    first | rw [if_pos (by assumption)] | rw [if_neg (by omega)]
    go_wp2
    go_ret
    exact ⟨rfl, (Below.refl _ _).alloc (Nat.le_refl _) _⟩

set_option maxHeartbeats 1600000 in
theorem toClueS_own (A : Option Addr) (n c : Nat) (cs : List Cl) (w : World) (hA : Holds w A (clsC cs)) (hx : cs.length = n) (hn : n ≤ 1048576) :
    Calls Try.prog 56 #[.slice A n c] w fun e w' => e = .returned (.slice (some ⟨w.heap.size, 0, none⟩) n n) ∧ Whole w' w.heap.size 25 (clsC cs).toArray ∧ Below w.heap.size w w' := by
  subst hx
  obtain ⟨i0, hi, hz0, hz1, hz2⟩ := info_parts info_clue
  have hmk : ∀ W : World, (Instr.makeSlice 33 (.int .i64 (cs.length : Int)) (.int .i64 (cs.length : Int))).run Try.prog W = .ok (.slice (some ⟨W.heap.size, 0, none⟩) cs.length cs.length) (W.alloc (.cells (filled (flat cs) 0) 25)) := by
    intro W
    have h := run_make (P := Try.prog) W 33 25 i0 _ Try.underlying33 hi hz0 .i64 .i64 cs.length cs.length (by omega) (by omega) (by rw [hz2]; omega) (by omega)
    simp only [Int.toNat_natCast, hz1, made_zeros3] at h
    rw [h]
    simp [filled, flat_len]
  clear hi hz0 hz1 hz2
  go_enter Try.func56, Try.ntmps56
  go_wp2
  have h0 := Whole.fresh w 25 (filled (flat cs) 0)
  have hb0 : Below w.heap.size w (w.alloc (.cells (filled (flat cs) 0) 25)) := (Below.refl _ _).alloc (Nat.le_refl _) _
  go_loopw [4] (fun i wr => ∃ k : Nat, k ≤ cs.length ∧ i = .int .i64 k ∧ Whole wr w.heap.size 25 (filled (flat cs) (k * 3)) ∧ Below w.heap.size w wr) (fun i _ => cs.length - (intOf i).toNat)
  case atStart => exact ⟨0, Nat.zero_le _, rfl, h0, hb0⟩
  case round =>
    obtain ⟨k, hk, rfl, hw, hb⟩ := hrel
    clear hmk h0 hb0
    by_cases hlt : k < cs.length
    · obtain ⟨b, o, rfl, hbl, c0, c1, c2⟩ := cls_look (hA.below hb) hlt
      obtain ⟨⟨x1, x2, x3⟩, hx⟩ : ∃ x, x = cs[k] := ⟨_, rfl⟩
      rw [← hx] at c0 c1 c2
      dsimp only at c0 c1 c2
      have hkl : (k : Int) < cs.length := by omega
      have HW := Lib.hid hw
      have HB := Lib.hid hb
      have HX := Lib.hid hx
      clear hw hb hx
      go_wp2_with fail
      refine (toClue_any x1 x2 x3 _).mono ?_
      rintro e w2 ⟨rfl, hb2⟩
      have hw2 := HW.out.below hb2
      have hlt2 := hw2.lt
      obtain ⟨v0, d0⟩ := filled_some (flat cs) (k * 3) (j := k * 3) (by rw [flat_len]; omega)
      obtain ⟨v1, d1⟩ := filled_some (flat cs) (k * 3) (j := k * 3 + 1) (by rw [flat_len]; omega)
      obtain ⟨v2, d2⟩ := filled_some (flat cs) (k * 3) (j := k * 3 + 2) (by rw [flat_len]; omega)
      have e0 := (hw2.cell (k * 3)).trans d0
      have e1 := (hw2.cell (k * 3 + 1)).trans d1
      have e2 := (hw2.cell (k * 3 + 2)).trans d2
      have f0 := hw2.open_ (k * 3)
      have f1 := hw2.open_ (k * 3 + 1)
      have f2 := hw2.open_ (k * 3 + 2)
      have hn2 := ((hw2.set_ (k * 3) (.int .i64 x1)).set_ (k * 3 + 1) (.int .i64 x2)).set_ (k * 3 + 2) (.int .i64 x3)
      have hrow := filled_row hlt
      rw [← HX.out] at hrow
      dsimp only at hrow
      rw [hrow] at hn2
      have HN := Lib.hid hn2
      have HB2 := Lib.hid (HB.out.trans (hb2.mono HB.out.size))
      clear hn2 hrow hw2 hb2 d0 d1 d2
      go_wp2
      go_roundw
      case rel => exact ⟨k + 1, by omega, by go_num, HN.out, ((HB2.out.setCell (p := ⟨w.heap.size, k * 3, none⟩) (Nat.le_refl _) _).setCell (p := ⟨w.heap.size, k * 3 + 1, none⟩) (Nat.le_refl _) _).setCell (p := ⟨w.heap.size, k * 3 + 2, none⟩) (Nat.le_refl _) _⟩
      case measure => simp [intOf]; omega
    · have hkn : k = cs.length := by omega
      subst hkn
      have hd : filled (flat cs) (cs.length * 3) = (clsC cs).toArray := by rw [← flat_len, filled_done, clsC_flat]
      rw [hd] at hw
      have HW := Lib.hid hw
      clear hw hd
      go_wp2
      go_ret
      exact ⟨rfl, HW.out, hb⟩

set_option maxHeartbeats 800000 in
theorem toPuzzle_own (s : Int) (A : Option Addr) (n c : Nat) (cs : List Cl) (w : World) (hA : Holds w A (clsC cs)) (hx : cs.length = n) (hn : n ≤ 1048576) :
    Calls Try.prog 20 #[.agg #[.int .i64 s, .slice A n c]] w fun e w' => ∃ g, e = .returned (.agg #[.int .i64 s, .slice (some ⟨g, 0, none⟩) n n]) ∧ w.heap.size ≤ g ∧ Whole w' g 25 (clsC cs).toArray ∧ Below w.heap.size w w' := by
  have HX := Lib.hid hx
  clear hx
  have hy0 := (Whole.fresh (w.alloc (.cells #[.int .i64 s, .slice A n c] 30)) 35 #[.int .i64 0, .slice none 0 0]).alloc (.cells #[.int .i64 s, .slice none 0 0] 35)
  have hz0 := Whole.fresh ((w.alloc (.cells #[.int .i64 s, .slice A n c] 30)).alloc (.cells #[.int .i64 0, .slice none 0 0] 35)) 35 #[.int .i64 s, .slice none 0 0]
  simp only [World.size_alloc] at hy0 hz0
  have HY := Lib.hid hy0
  have HZ := Lib.hid hz0
  clear hy0 hz0
  go_enter Try.func20, Try.ntmps20
  go_wp2_with fail
  refine (toClueS_own A n c cs _ (((hA.alloc _).alloc _).alloc _) HX.out hn).mono ?_
  rintro e w1 ⟨rfl, hw, hb⟩
  have hy1 := HY.out.below hb
  have hz1 := HZ.out.below hb
  obtain ⟨y0, y1⟩ := hy1.cells2
  obtain ⟨z0, z1⟩ := hz1.cells2
  have yf0 := hy1.open_ 0
  have yf1 := hy1.open_ 1
  have zf1 := hz1.open_ 1
  have hbs := hb.size
  have hz : w.heap.size + 3 < w1.heap.size := by have := hw.lt; simp at this; omega
  have hw' : Whole w1 (w.heap.size + 1 + 1 + 1) 25 (clsC cs).toArray := by simpa using hw
  have hb' : Below w.heap.size w w1 := below_then (below3 w _ _ _) hb (by simp; omega)
  have HW := Lib.hid hw'
  have HB := Lib.hid hb'
  clear hw hb hy1 hz1 hw' hb'
  go_wp2
  refine bodyPost_ret (v := .agg #[.int .i64 s, .slice (some ⟨w.heap.size + 1 + 1 + 1, 0, none⟩) n n]) (by simp [results, Try.results20, go_sem, y0, y1, z0, z1]) rfl ⟨_, rfl, by omega, ?_, ?_⟩
  · exact ((HW.out.off (by omega)).off (by omega)).off (by omega)
  · exact below_set (below_set (below_set HB.out (by omega)) (by omega)) (by omega)
end Go.Proofs.Ytcoagbcleccmmaa

namespace Go.Proofs.Ytcoagbcleccmmaa
open Go.RowKit

set_option maxHeartbeats 400000 in
theorem eqClue_yes (k a b : Int) (w : World) : Calls Try.prog 77 #[.agg #[.int .i64 k, .int .i64 a, .int .i64 b], .agg #[.int .i64 k, .int .i64 a, .int .i64 b]] w fun e w' => e = .returned (.bool true) ∧ Below w.heap.size w w' := by
  have hk : (k != k) = false := by simp
  have ha : (a != a) = false := by simp
  have hb : (b != b) = false := by simp
  go_enter Try.func77, Try.ntmps77
  go_wp2
  go_ret
  exact ⟨rfl, below2 w _ _⟩

set_option maxHeartbeats 1600000 in
theorem eqClueS_yes (A B : Option Addr) (n c d : Nat) (cs : List Cl) (w : World) (hA : Holds w A (clsC cs)) (hB : Holds w B (clsC cs)) (hx : cs.length = n) (hn : n ≤ 9223372036854775807) :
    Calls Try.prog 59 #[.slice A n c, .slice B n d] w fun e w' => e = .returned (.bool true) ∧ Below w.heap.size w w' := by
  subst hx
  have hll : ((cs.length : Int) != (cs.length : Int)) = false := by simp
  go_enter Try.func59, Try.ntmps59
  go_wp2
  go_loopw [5] (fun i wr => ∃ k : Nat, k ≤ cs.length ∧ i = .int .i64 k ∧ Below w.heap.size w wr) (fun i _ => cs.length - (intOf i).toNat)
  case atStart => exact ⟨0, Nat.zero_le _, rfl, Below.refl _ _⟩
  case round =>
    obtain ⟨k, hk, rfl, hb⟩ := hrel
    by_cases hlt : k < cs.length
    · obtain ⟨b, o, rfl, hbl, c0, c1, c2⟩ := cls_look (hA.below hb) hlt
      obtain ⟨b', o', rfl, hbl', d0, d1, d2⟩ := cls_look (hB.below hb) hlt
      obtain ⟨⟨x1, x2, x3⟩, hx⟩ : ∃ x, x = cs[k] := ⟨_, rfl⟩
      rw [← hx] at c0 c1 c2 d0 d1 d2
      dsimp only at c0 c1 c2 d0 d1 d2
      have hkl : (k : Int) < cs.length := by omega
      have HB := Lib.hid hb
      clear hb hx
      go_wp2_with fail
      go_region_held3 (fun w' => (w'.cell? ⟨b, o + k * 3, none⟩ = some (.int .i64 x1) ∧ w'.cell? ⟨b, o + k * 3 + 1, none⟩ = some (.int .i64 x2) ∧ w'.cell? ⟨b, o + k * 3 + 2, none⟩ = some (.int .i64 x3)) ∧ (w'.cell? ⟨b', o' + k * 3, none⟩ = some (.int .i64 x1) ∧ w'.cell? ⟨b', o' + k * 3 + 1, none⟩ = some (.int .i64 x2) ∧ w'.cell? ⟨b', o' + k * 3 + 2, none⟩ = some (.int .i64 x3))) (go_keep)
        (first | (go_at_call 77; refine (eqClue_yes x1 x2 x3 _).mono ?_; rintro e w2 ⟨rfl, hb2⟩; have hb3 : Below wr.heap.size wr w2 := below_then (Below.refl wr.heap.size wr).drew hb2 (Nat.le_refl _); have e0 := (hb3.cell (p := ⟨b, o + k * 3, none⟩) hbl).trans c0; have e1 := (hb3.cell (p := ⟨b, o + k * 3 + 1, none⟩) hbl).trans c1; have e2 := (hb3.cell (p := ⟨b, o + k * 3 + 2, none⟩) hbl).trans c2; have g0 := (hb3.cell (p := ⟨b', o' + k * 3, none⟩) hbl').trans d0; have g1 := (hb3.cell (p := ⟨b', o' + k * 3 + 1, none⟩) hbl').trans d1; have g2 := (hb3.cell (p := ⟨b', o' + k * 3 + 2, none⟩) hbl').trans d2; have HB3 := Lib.hid (below_then HB.out hb3 HB.out.size); clear hb2 hb3) | fail)
      go_wp2
      go_roundw
      case rel => exact ⟨k + 1, by omega, by go_num, HB3.out⟩
      case measure => simp [intOf]; omega
    · have HB := Lib.hid hb
      clear hb
      go_wp2
      go_ret
      exact ⟨rfl, HB.out⟩

set_option maxHeartbeats 400000 in
theorem eqPuzzle_yes (A B : Option Addr) (n c d : Nat) (cs : List Cl) (s : Int) (w : World) (hA : Holds w A (clsC cs)) (hB : Holds w B (clsC cs)) (hx : cs.length = n) (hn : n ≤ 9223372036854775807) :
    Calls Try.prog 22 #[.agg #[.int .i64 s, .slice A n c], .agg #[.int .i64 s, .slice B n d]] w fun e w' => e = .returned (.bool true) ∧ Below w.heap.size w w' := by
  have HX := Lib.hid hx
  clear hx
  have hss : (s != s) = false := by simp
  have hb2 := below2 w (.cells #[.int .i64 s, .slice A n c] 35) (.cells #[.int .i64 s, .slice B n d] 35)
  have HB2 := Lib.hid hb2
  have HA := Lib.hid (hA.below hb2)
  have HB := Lib.hid (hB.below hb2)
  clear hA hB hb2
  go_enter Try.func22, Try.ntmps22
  go_wp2_with fail
  refine (eqClueS_yes A B n c d cs _ HA.out HB.out HX.out hn).mono ?_
  rintro e w1 ⟨rfl, hb⟩
  have HF := Lib.hid (below_then HB2.out hb HB2.out.size)
  clear hb
  go_wp2
  go_ret
  exact ⟨rfl, HF.out⟩
end Go.Proofs.Ytcoagbcleccmmaa

namespace Go.Proofs.Ytcoagbcleccmmaa
open Go.RowKit

set_option maxHeartbeats 800000 in
set_option linter.unusedVariables false in
theorem lawIsPuzzle_big0 (k0 : Int) (A0 : Option Addr) (n0 c0 : Nat) (x0 : List Cl) (w : World) (h0 : Holds w A0 (clsC x0)) (hx0 : x0.length = n0) (hn0 : n0 ≤ 9223372036854775807)  (hbig : 1048576 - (n0 : Int) < 0) :
    Calls Try.prog 4 #[.agg #[.int .i64 k0, .slice A0 n0 c0]] w fun e w' => e = .returned (.bool true) ∧ Below w.heap.size w w' := by
  have hb0 := (Whole.fresh w 30 #[.int .i64 k0, .slice A0 n0 c0])
  have ht := below1 w (.cells #[.int .i64 k0, .slice A0 n0 c0] 30)
  have HX0 := Lib.hid hx0
  clear hx0
  obtain ⟨hb0_0, hb0_1⟩ := hb0.cells2
  have hb0_l := hb0.lt
  go_enter Try.func4, Try.ntmps4
  go_wp2_with fail
  refine (szPuzzle_any k0 A0 n0 c0 (1048576) _ (by omega) (by omega) (by omega)).mono ?_
  rintro e v1 ⟨rfl, hb⟩
  rw [if_pos (by omega)]
  have hz1 : w.heap.size + 1 ≤ v1.heap.size := by have := hb.size; simpa using this
  replace ht := below_then ht hb ht.size
  replace hb0 := hb0.below hb
  clear hb
  clear hb0_0 hb0_1 hb0_l
  go_wp2
  go_ret
  exact ⟨rfl, ht⟩

set_option maxHeartbeats 12800000 in
set_option maxRecDepth 100000 in
set_option linter.unusedSimpArgs false in
set_option linter.unusedVariables false in
theorem lawIsPuzzle_small (k0 : Int) (A0 : Option Addr) (n0 c0 : Nat) (x0 : List Cl) (w : World) (h0 : Holds w A0 (clsC x0)) (hx0 : x0.length = n0) (hn0 : n0 ≤ 9223372036854775807) (g0 : 0 ≤ 1048576 - (n0 : Int)) :
    Calls Try.prog 4 #[.agg #[.int .i64 k0, .slice A0 n0 c0]] w fun e w' => e = .returned (.bool true) ∧ Below w.heap.size w w' := by
  have hb0 := (Whole.fresh w 30 #[.int .i64 k0, .slice A0 n0 c0])
  have ht := below1 w (.cells #[.int .i64 k0, .slice A0 n0 c0] 30)
  have HX0 := Lib.hid hx0
  clear hx0
  obtain ⟨hb0_0, hb0_1⟩ := hb0.cells2
  have hb0_l := hb0.lt
  go_enter Try.func4, Try.ntmps4
  -- region 2
  go_wp2_with fail
  refine (szPuzzle_any k0 A0 n0 c0 (1048576) _ (by omega) (by omega) (by omega)).mono ?_
  rintro e v1 ⟨rfl, hb⟩
  rw [if_neg (by omega)]
  have hz1 : w.heap.size + 1 ≤ v1.heap.size := by have := hb.size; simpa using this
  replace ht := below_then ht hb ht.size
  replace hb0 := hb0.below hb
  clear hb
  clear hb0_0 hb0_1 hb0_l
  obtain ⟨hb0_0, hb0_1⟩ := hb0.cells2
  have hb0_l := hb0.lt
  -- region 5
  go_wp2_with fail
  refine (toPuzzle_own k0 A0 n0 c0 x0 _ (by exact h0.below ht) HX0.out (by omega)).mono ?_
  rintro e v2 ⟨gp0, rfl, hgp0, hwp0, hb⟩
  have hz2 : v1.heap.size ≤ v2.heap.size := by have := hb.size; simpa using this
  replace ht := below_then ht hb ht.size
  replace hb0 := hb0.below hb
  have hp0 := Fresh.of_whole (lo := v1.heap.size) (hi := v2.heap.size) hwp0 (by simpa using hgp0) hwp0.lt
  clear hgp0 hwp0
  clear hb
  clear hb0_0 hb0_1 hb0_l
  obtain ⟨hb0_0, hb0_1⟩ := hb0.cells2
  have hb0_l := hb0.lt
  go_wp2_with fail
  refine (specIsPuzzle_any k0 _ n0 _ x0 _ (by exact hp0.holds) HX0.out (by omega)).mono ?_
  rintro e v3 ⟨rfl, hb⟩
  have hz3 : v2.heap.size ≤ v3.heap.size := by have := hb.size; simpa using this
  replace ht := below_then ht hb ht.size
  replace hb0 := hb0.below hb
  replace hp0 := hp0.below hb
  clear hb
  clear hp0
  clear hb0_0 hb0_1 hb0_l
  obtain ⟨hb0_0, hb0_1⟩ := hb0.cells2
  have hb0_l := hb0.lt
  -- region 6
  go_wp2_with fail
  refine (toPuzzle_own k0 A0 n0 c0 x0 _ (by exact h0.below ht) HX0.out (by omega)).mono ?_
  rintro e v4 ⟨gx0, rfl, hgx0, hwx0, hb⟩
  have hz4 : v3.heap.size ≤ v4.heap.size := by have := hb.size; simpa using this
  replace ht := below_then ht hb ht.size
  replace hb0 := hb0.below hb
  have hx0 := Fresh.of_whole (lo := v3.heap.size) (hi := v4.heap.size) hwx0 (by simpa using hgx0) hwx0.lt
  clear hgx0 hwx0
  clear hb
  have hx90 := Whole.fresh v4 35 #[.int .i64 k0, .slice (some ⟨gx0, 0, none⟩) n0 n0]
  replace ht := ht.alloc ht.size (.cells #[.int .i64 k0, .slice (some ⟨gx0, 0, none⟩) n0 n0] 35)
  replace hb0 := hb0.alloc (.cells #[.int .i64 k0, .slice (some ⟨gx0, 0, none⟩) n0 n0] 35)
  replace hx0 := hx0.alloc (.cells #[.int .i64 k0, .slice (some ⟨gx0, 0, none⟩) n0 n0] 35)
  clear hb0_0 hb0_1 hb0_l
  obtain ⟨hb0_0, hb0_1⟩ := hb0.cells2
  have hb0_l := hb0.lt
  obtain ⟨hx90_0, hx90_1⟩ := hx90.cells2
  have hx90_l := hx90.lt
  -- region 7
  go_wp2_with fail
  refine (isPuzzle_any k0 _ n0 _ x0 _ (by exact hx0.holds) HX0.out (by omega)).mono ?_
  rintro e v5 ⟨rfl, hb⟩
  have hz5 : v4.heap.size + 1 ≤ v5.heap.size := by have := hb.size; simpa using this
  replace ht := below_then ht hb ht.size
  replace hb0 := hb0.below hb
  replace hx0 := hx0.below hb
  replace hx90 := hx90.below hb
  clear hb
  clear hb0_0 hb0_1 hb0_l hx90_0 hx90_1 hx90_l
  obtain ⟨hb0_0, hb0_1⟩ := hb0.cells2
  have hb0_l := hb0.lt
  obtain ⟨hx90_0, hx90_1⟩ := hx90.cells2
  have hx90_l := hx90.lt
  -- region 10
  clear hb0_0 hb0_1 hb0_l hx90_0 hx90_1 hx90_l
  go_wp2_with fail
  refine wp_region_held_drew (S := (fun w' => w'.cell? ⟨w.heap.size, 0, none⟩ = some (.int .i64 k0) ∧ w'.cell? ⟨w.heap.size, 1, none⟩ = some (.slice A0 n0 c0) ∧ w'.cell? ⟨v4.heap.size, 0, none⟩ = some (.int .i64 k0) ∧ w'.cell? ⟨v4.heap.size, 1, none⟩ = some (.slice (some ⟨gx0, 0, none⟩) n0 n0))) (by kernel_rfl) ⟨hb0.drew.cell 0, hb0.drew.cell 1, hx90.drew.cell 0, hx90.drew.cell 1⟩ (fun hHeld => ?_)
  replace ht := ht.drew
  replace hb0 := hb0.drew
  replace hx0 := hx0.drew
  replace hx90 := hx90.drew
  refine wpAnyH_take (i := 0) (v := ?_) rfl (by kernel_rfl) (by kernel_rfl) (by kernel_rfl) (fun _ _ _ h => h) (Or.inl ⟨rfl, ?_⟩) hHeld ?_
  rotate_left
  · intro w' hS; obtain ⟨s0, s1, s2, s3⟩ := hS; go_simp <;> with_reducible rfl
  simp only [Act.put, List.getElem_toArray, List.getElem_cons_succ, List.getElem_cons_zero, List.setIfInBounds_toArray, List.set_cons_succ, List.set_cons_zero]
  refine wpAnyH_take (i := 1) (v := ?_) rfl (by kernel_rfl) (by kernel_rfl) (by kernel_rfl) (fun _ _ _ h => h) (Or.inl ⟨rfl, ?_⟩) hHeld ?_
  rotate_left
  · intro w' hS; obtain ⟨s0, s1, s2, s3⟩ := hS; go_simp <;> with_reducible rfl
  simp only [Act.put, List.getElem_toArray, List.getElem_cons_succ, List.getElem_cons_zero, List.setIfInBounds_toArray, List.set_cons_succ, List.set_cons_zero]
  refine wpAnyH_ready (rs := [2]) (by kernel_rfl) (by simp) (AllReadyH.cons rfl (fun K hK => ?_) AllReadyH.nil)
  go_simp
  refine (toPuzzle_own k0 A0 n0 c0 x0 _ (by exact h0.below ht) HX0.out (by omega)).mono ?_
  rintro e v6 ⟨gy0, rfl, hgy0, hwy0, hb⟩
  have hz6 : v5.heap.size ≤ v6.heap.size := by have := hb.size; simpa using this
  replace ht := below_then ht hb ht.size
  replace hb0 := hb0.below hb
  replace hx0 := hx0.below hb
  replace hx90 := hx90.below hb
  have hy0 := Fresh.of_whole (lo := v5.heap.size) (hi := v6.heap.size) hwy0 (by simpa using hgy0) hwy0.lt
  clear hgy0 hwy0
  clear hb
  refine hK.out _ _ ⟨hb0.cell 0, hb0.cell 1, hx90.cell 0, hx90.cell 1⟩ (fun hHeld => ?_)
  clear hK K
  try simp only [Act.put, List.getElem_toArray, List.getElem_cons_succ, List.getElem_cons_zero, List.setIfInBounds_toArray, List.set_cons_succ, List.set_cons_zero]
  refine wpAnyH_ready (rs := [3]) (by kernel_rfl) (by simp) (AllReadyH.cons rfl (fun K hK => ?_) AllReadyH.nil)
  go_simp
  refine (eqPuzzle_yes _ _ n0 _ _ x0 k0 _ (by exact hx0.holds) (by exact hy0.holds) HX0.out (by omega)).mono ?_
  rintro e v7 ⟨rfl, hb⟩
  have hz7 : v6.heap.size ≤ v7.heap.size := by have := hb.size; simpa using this
  replace ht := below_then ht hb ht.size
  replace hb0 := hb0.below hb
  replace hx0 := hx0.below hb
  replace hx90 := hx90.below hb
  replace hy0 := hy0.below hb
  clear hb
  clear hy0
  refine hK.out _ _ ⟨hb0.cell 0, hb0.cell 1, hx90.cell 0, hx90.cell 1⟩ (fun hHeld => ?_)
  clear hK K
  try simp only [Act.put, List.getElem_toArray, List.getElem_cons_succ, List.getElem_cons_zero, List.setIfInBounds_toArray, List.set_cons_succ, List.set_cons_zero]
  refine wpAnyH_take (i := 4) (v := ?_) rfl (by kernel_rfl) (by kernel_rfl) (by kernel_rfl) (fun _ _ _ h => h) (Or.inl ⟨rfl, ?_⟩) hHeld ?_
  rotate_left
  · intro w' hS; obtain ⟨s0, s1, s2, s3⟩ := hS; go_simp <;> with_reducible rfl
  simp only [Act.put, List.getElem_toArray, List.getElem_cons_succ, List.getElem_cons_zero, List.setIfInBounds_toArray, List.set_cons_succ, List.set_cons_zero]
  refine wpAnyH_done (by kernel_rfl) ?_ _
  clear hHeld
  obtain ⟨hb0_0, hb0_1⟩ := hb0.cells2
  have hb0_l := hb0.lt
  obtain ⟨hx90_0, hx90_1⟩ := hx90.cells2
  have hx90_l := hx90.lt
  go_wp2
  go_ret
  exact ⟨rfl, ht⟩

theorem lawIsPuzzle_all (k0 : Int) (A0 : Option Addr) (n0 c0 : Nat) (x0 : List Cl) (w : World) (h0 : Holds w A0 (clsC x0)) (hx0 : x0.length = n0) (hn0 : n0 ≤ 9223372036854775807) :
    Calls Try.prog 4 #[.agg #[.int .i64 k0, .slice A0 n0 c0]] w fun e w' => e = .returned (.bool true) ∧ Below w.heap.size w w' := by
  rcases (inferInstance : Decidable (0 ≤ 1048576 - (n0 : Int))) with g0 | g0
  · exact lawIsPuzzle_big0 k0 A0 n0 c0 x0 w h0 hx0 hn0  (by omega)
  exact lawIsPuzzle_small k0 A0 n0 c0 x0 w h0 hx0 hn0 g0
end Go.Proofs.Ytcoagbcleccmmaa
