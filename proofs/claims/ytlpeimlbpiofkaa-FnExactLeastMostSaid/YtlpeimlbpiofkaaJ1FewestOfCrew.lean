/-
  What is proved: plain facts on memory for this seat's walks: a slice that stands for a list of one-cell values, and a block that is known whole; both outlive whatever leaves the blocks below them alone. Conditions: none.
  What is proved: contracts of the laws' own helpers for lists of numbers and parties: their size, their copy, their comparison. Conditions: the given lists are read as they lie; a copy is of at most 1,048,576 numbers.
  What is proved: contracts of the model's and the program's tests of a party. Conditions: the party's times are read as they lie.
  What is proved: contracts of the least and the greatest number of a list, and of the program's own test of a party. Conditions: the party's times are read as they lie.
  What is proved: contracts of the laws' own helpers for lists of truth values and states: their size, their copy, their comparison. Conditions: the given lists are read as they lie; a copy is of at most 1,048,576 values.
  What is proved: contracts of the model's and the program's tests of a state. Conditions: the party's times and the state's places are read as they lie.
  What is proved: the contract of the program's own IsState. Conditions: the party's times and the state's places are read as they lie.
  What is proved: contracts on trips: the program's crowd of a list and its slowest time, the model's test of a trip and its time; and that the two times are one. Conditions: lists are read as they lie; at most eight people.
  What is proved: contracts of the program's crowd of a list, of its slowest time, and that this time is the model's. Conditions: lists are read as they lie; at most eight people.
  What is proved: contracts of the model's and the program's TripTime. Conditions: the party's times and the list are read as they lie.
  What is proved: contracts of the model's and the program's tests of a trip in a state. Conditions: the arguments are read as they lie; at most eight people.
  What is proved: a store of a whole struct or array into a block that is known whole, as one step of a walk. Conditions: the block has just as many cells.
  What is proved: contracts of the program's own place of a state, of a trip in it, and of its CanCross. Conditions: the arguments are read as they lie; at most eight people.
  What is proved: contracts of the laws' marks: a row of the call's own is overwritten by a count, and found so again. Conditions: the row is a new one, open to writes; counts are small.
  What is proved: contracts of the first state, as the model and the program make it. Conditions: the party's times are read as they lie.
  What is proved: contracts of the program's state of a place and of its FirstState. Conditions: the party's times are read as they lie; at most eight people.
  What is proved: contracts of the last state, as the model and the program make it. Conditions: the party's times are read as they lie.
  What is proved: plain facts on trips one after the other: who is where behind them, how many of them can be made. Conditions: none.
  What is proved: contracts of a trip made, by the model (paCross) and by the program (cross). Conditions: the trip is one; at most eight people.
-/
import Derived.Test.YtlpeimlbpiofkaaProg
import Derived.WalkKit
import Derived.Below
import Derived.Laws.OwnMore
import Derived.Laws.MakeOwn
import Derived.Deep.Draws
import Derived.BigQuiet
import Derived.Deep.QuietTactic
import Derived.Handy
import Derived.WalkLawsBesides
import Derived.Outline
import Derived.Lib.Hide
import Derived.Laws.CopyOwn
import Derived.Laws.Tables
import Derived.WalkSpells
import Derived.Deep.RegionHeld3
import Derived.Deep.RegionLawGrows
set_option linter.unusedSimpArgs false
set_option linter.unusedVariables false
namespace Go.Proofs.Ytlpeimlbpiofkaa
open Go.RowKit

/-- The numbers as cells. -/
def nums (zs : List Int) : List Value := zs.map (Value.int .i64)
/-- The truth values as cells. -/
def bits (bs : List Bool) : List Value := bs.map Value.bool

theorem nums_len (zs : List Int) : (nums zs).length = zs.length := by simp [nums]
theorem bits_len (bs : List Bool) : (bits bs).length = bs.length := by simp [bits]

/-- From address A on the world holds the cells xs (nothing is said where xs is empty). -/
def Holds (w : World) (A : Option Addr) (xs : List Value) : Prop :=
  xs = [] ∨ ∃ b o, A = some ⟨b, o, none⟩ ∧ b < w.heap.size ∧ ∀ j u, xs[j]? = some u → w.cell? ⟨b, o + j, none⟩ = some u

/-- Block g is just the cells cs of the element type t, open to writes. -/
def Whole (w : World) (g : Nat) (t : TypeId) (cs : Array Value) : Prop := w.heap[g]? = some (.cells cs t (0, 0))

section
variable {w w' : World} {A : Option Addr} {xs : List Value} {g : Nat} {t : TypeId} {cs : Array Value}

theorem Holds.empty (w : World) (A : Option Addr) : Holds w A [] := .inl rfl

theorem Holds.look {k : Nat} (h : Holds w A xs) (hk : k < xs.length) : ∃ b o, A = some ⟨b, o, none⟩ ∧ b < w.heap.size ∧ w.cell? ⟨b, o + k, none⟩ = some xs[k] := by
  rcases h with rfl | ⟨b, o, hA, hb, hc⟩
  · simp at hk
  · exact ⟨b, o, hA, hb, hc k _ (List.getElem?_eq_getElem hk)⟩

theorem Holds.keep (h : Holds w A xs) (hs : w.heap.size ≤ w'.heap.size) (hk : ∀ p : Addr, p.block < w.heap.size → w'.cell? p = w.cell? p) : Holds w' A xs := by
  rcases h with rfl | ⟨b, o, hA, hb, hc⟩
  · exact .inl rfl
  · exact .inr ⟨b, o, hA, by omega, fun j u hu => (hk ⟨b, o + j, none⟩ hb).trans (hc j u hu)⟩

theorem Holds.below (h : Holds w A xs) (hb : Below w.heap.size w w') : Holds w' A xs := h.keep hb.size fun _ hp => hb.cell hp
theorem Holds.drew (h : Holds w A xs) : Holds w.drew A xs := h
theorem Holds.alloc (h : Holds w A xs) (o : Obj) : Holds (w.alloc o) A xs := h.keep (by simp) fun p hp => World.cell?_alloc_lt w o p hp

theorem Whole.lt (h : Whole w g t cs) : g < w.heap.size := by
  rcases Nat.lt_or_ge g w.heap.size with hl | hl
  · exact hl
  · unfold Whole at h; rw [Array.getElem?_eq_none hl] at h; cases h
theorem Whole.cell (h : Whole w g t cs) (i : Nat) : w.cell? ⟨g, i, none⟩ = cs[i]? := by
  unfold Whole at h
  simp [World.cell?, h]
theorem Whole.open_ (h : Whole w g t cs) (i : Nat) : w.frozen? ⟨g, i, none⟩ = false := by
  unfold Whole at h
  simp [World.frozen?, h]
theorem Whole.below (h : Whole w g t cs) (hb : Below w.heap.size w w') : Whole w' g t cs := (hb.block g h.lt).trans h
theorem Whole.below' {B : Nat} (h : Whole w g t cs) (hb : Below B w w') (hg : g < B) : Whole w' g t cs := (hb.block g hg).trans h
theorem Whole.drew (h : Whole w g t cs) : Whole w.drew g t cs := h
theorem Whole.alloc (h : Whole w g t cs) (o : Obj) : Whole (w.alloc o) g t cs := (Below.heap_alloc w o g h.lt).trans h
theorem Whole.far (h : Whole w g t cs) {p : Addr} (hp : g ≠ p.block) (u : Value) : Whole (w.setCell p u) g t cs := (Below.heap_setCell w p u g hp).trans h
theorem Whole.set_ (h : Whole w g t cs) (i : Nat) (u : Value) : Whole (w.setCell ⟨g, i, none⟩ u) g t (cs.setIfInBounds i u) := by
  unfold Whole at h ⊢
  simp [World.setCell, Array.getElem?_modify, h]
theorem Whole.fresh (w : World) (t : TypeId) (cs : Array Value) : Whole (w.alloc (.cells cs t)) w.heap.size t cs := by
  unfold Whole World.alloc
  simp
theorem Whole.holds (h : Whole w g t cs) : Holds w (some ⟨g, 0, none⟩) cs.toList :=
  .inr ⟨g, 0, rfl, h.lt, fun j u hu => by rw [Nat.zero_add, h.cell j]; simpa using hu⟩
end

/-- Behind a call that leaves all that was there alone: the old cells and the old marks, as two rules for the walk. -/
theorem kept {w w' : World} (hb : Below w.heap.size w w') :
    (∀ b o, b < w.heap.size → w'.cell? ⟨b, o, none⟩ = w.cell? ⟨b, o, none⟩) ∧ (∀ b o, b < w.heap.size → w'.frozen? ⟨b, o, none⟩ = w.frozen? ⟨b, o, none⟩) :=
  ⟨fun b o h => hb.cell (p := ⟨b, o, none⟩) h, fun b o h => hb.frozen (p := ⟨b, o, none⟩) h⟩

/-- The same three words with the block's number written out, for omega. -/
theorem Whole.off {w : World} {g b o : Nat} {t : TypeId} {cs : Array Value} {u : Value} (h : Whole w g t cs) (hne : g ≠ b) : Whole (w.setCell ⟨b, o, none⟩ u) g t cs := h.far (p := ⟨b, o, none⟩) hne u
theorem below_set {B b o : Nat} {a w : World} {u : Value} (h : Below B a w) (hb : B ≤ b) : Below B a (w.setCell ⟨b, o, none⟩ u) := h.setCell (p := ⟨b, o, none⟩) hb u
theorem below1 (w : World) (x : Obj) : Below w.heap.size w (w.alloc x) := (Below.refl _ _).alloc (Nat.le_refl _) x
theorem below2 (w : World) (x y : Obj) : Below w.heap.size w ((w.alloc x).alloc y) := (below1 w x).alloc (by simp) y
theorem below3 (w : World) (x y z : Obj) : Below w.heap.size w (((w.alloc x).alloc y).alloc z) := (below2 w x y).alloc (by simp; omega) z
theorem below4 (w : World) (x y z u : Obj) : Below w.heap.size w ((((w.alloc x).alloc y).alloc z).alloc u) := (below3 w x y z).alloc (by simp; omega) u
theorem below_then {a b c : World} {B : Nat} (h : Below B a b) (k : Below b.heap.size b c) (hB : B ≤ b.heap.size) : Below B a c := h.trans (k.mono hB)

theorem below_draws {B : Nat} {a w : World} (h : Below B a w) (n : Nat) : Below B a (w.drewN n) := ⟨h.os, h.tape, h.output, h.size, h.block⟩

/-- The cells and marks of a block of two cells. -/
theorem Whole.two {w : World} {g : Nat} {t : TypeId} {a b : Value} (h : Whole w g t #[a, b]) :
    w.cell? ⟨g, 0, none⟩ = some a ∧ w.cell? ⟨g, 1, none⟩ = some b ∧ w.frozen? ⟨g, 0, none⟩ = false ∧ w.frozen? ⟨g, 1, none⟩ = false :=
  ⟨(h.cell 0).trans rfl, (h.cell 1).trans rfl, h.open_ 0, h.open_ 1⟩

theorem ret_of {v u : Value} (h : v = u) : Ending.returned v = .returned u := by rw [h]
end Go.Proofs.Ytlpeimlbpiofkaa

namespace Go.Proofs.Ytlpeimlbpiofkaa
open Go.RowKit

set_option maxHeartbeats 400000 in
theorem szIntS_any (A : Option Addr) (n c : Nat) (l : Int) (w : World) (hn : n ≤ 9223372036854775807) (h0 : 0 ≤ l) (h1 : l ≤ 1048576) :
    Calls Try.prog 59 #[.slice A n c, .int .i64 l] w fun e w' => e = .returned (.int .i64 (if l < n then -1 else l - n)) ∧ w = w' := by
  by_cases h : l < n
  · have h' : l - n < 0 := by omega
    go_enter Try.func59, Try.ntmps59
    go_wp2
    go_ret
    exact ⟨rfl, rfl⟩
  · have h' : ¬ l - n < 0 := by omega
    go_enter Try.func59, Try.ntmps59
    go_wp2
    go_ret
    exact ⟨rfl, rfl⟩

set_option maxHeartbeats 400000 in
theorem szParty_any (A : Option Addr) (n c : Nat) (s l : Int) (w : World) (hn : n ≤ 9223372036854775807) (h0 : 0 ≤ l) (h1 : l ≤ 1048576) :
    Calls Try.prog 15 #[.agg #[.slice A n c, .int .i64 s], .int .i64 l] w fun e w' => e = .returned (.int .i64 (if l < n then -1 else l - n)) ∧ Below w.heap.size w w' := by
  by_cases h : l < n
  all_goals
    go_enter Try.func15, Try.ntmps15
    go_wp2_with fail
    refine (szIntS_any A n c l _ hn h0 h1).mono ?_
    rintro e w' ⟨rfl, rfl⟩
    first | rw [if_pos (by assumption)] | rw [if_neg (by omega)]
    go_wp2
    go_ret
    exact ⟨rfl, (Below.refl _ _).alloc (Nat.le_refl _) _⟩

/-- Are two lists of numbers one and the same? -/
def sameInts (a b : List Int) : Bool := a == b
theorem sameInts_yes {a b : List Int} (h : a = b) : sameInts a b = true := by simp [sameInts, h]
theorem sameInts_no {a b : List Int} (h : a ≠ b) : sameInts a b = false := by simp [sameInts, h]

theorem take_next {a b : List Int} {k : Nat} (ha : k < a.length) (hb : k < b.length) (h : a.take k = b.take k) (he : a[k] = b[k]) : a.take (k + 1) = b.take (k + 1) := by
  rw [List.take_succ_eq_append_getElem ha, List.take_succ_eq_append_getElem hb, h, he]

set_option maxHeartbeats 400000 in
theorem eqIntS_any (A B : Option Addr) (n m c d : Nat) (xs ys : List Int) (w : World) (hA : Holds w A (nums xs)) (hB : Holds w B (nums ys)) (hx : xs.length = n) (hy : ys.length = m)
    (hn : n ≤ 9223372036854775807) (hm : m ≤ 9223372036854775807) :
    Calls Try.prog 56 #[.slice A n c, .slice B m d] w fun e w' => e = .returned (.bool (sameInts xs ys)) ∧ ∃ k, w' = w.drewN k := by
  subst hx hy
  by_cases hl : xs.length = ys.length
  · have hl' : ((xs.length : Int) != (ys.length : Int)) = false := by simp [hl]
    have HL := Lib.hid hl
    clear hl
    go_enter Try.func56, Try.ntmps56
    go_wp2
    go_loopw [5] (fun i wr => ∃ k q : Nat, k ≤ xs.length ∧ i = .int .i64 k ∧ wr = w.drewN q ∧ xs.take k = ys.take k) (fun i _ => xs.length - (intOf i).toNat)
    case atStart => exact ⟨0, 0, Nat.zero_le _, rfl, rfl, rfl⟩
    case round =>
      obtain ⟨k, q, hk, rfl, rfl, ht⟩ := hrel
      have HT := Lib.hid ht
      clear ht
      by_cases hlt : k < xs.length
      · have hlt' : k < ys.length := by have := HL.out; omega
        obtain ⟨b, o, rfl, hb, hc⟩ := hA.look (k := k) (by simpa [nums] using hlt)
        obtain ⟨b', o', rfl, hb', hc'⟩ := hB.look (k := k) (by simpa [nums] using hlt')
        simp only [nums, List.getElem_map] at hc hc'
        by_cases he : xs[k] = ys[k]
        · have hne : (xs[k] != ys[k]) = false := by simp [he]
          have HE := Lib.hid he
          clear he
          go_wp2
          go_quiet (fail)
          go_wp2
          go_roundw
          case rel => exact ⟨k + 1, _, by omega, by go_num, rfl, take_next hlt hlt' HT.out HE.out⟩
          case measure => simp [intOf]; omega
        · have hne : (xs[k] != ys[k]) = true := by simp [he]
          have HN := Lib.hid (sameInts_no (fun h : xs = ys => he (by subst h; rfl)))
          clear he
          go_wp2
          go_quiet (fail)
          go_wp2
          go_ret
          exact ⟨by rw [HN.out]; rfl, q + _, World.drewN_drewN _ _ _⟩
      · have h1 := HT.out
        rw [List.take_of_length_le (by omega), List.take_of_length_le (by have := HL.out; omega)] at h1
        have HN := Lib.hid (sameInts_yes h1)
        clear h1
        go_wp2
        go_ret
        exact ⟨by rw [HN.out]; rfl, _, rfl⟩
  · have hl' : ((xs.length : Int) != (ys.length : Int)) = true := by simp; omega
    have HN := Lib.hid (sameInts_no (fun h : xs = ys => hl (by rw [h])))
    clear hl
    go_enter Try.func56, Try.ntmps56
    go_wp2
    go_ret
    exact ⟨by rw [HN.out]; rfl, 0, rfl⟩

/-- What stands in the copy behind k rounds: the first k numbers, zeros behind them. -/
def filled (xs : List Int) (k : Nat) : Array Value := (nums (xs.take k ++ List.replicate (xs.length - k) 0)).toArray
theorem filled_done (xs : List Int) : filled xs xs.length = (nums xs).toArray := by simp [filled]
theorem filled_at (xs : List Int) {k : Nat} (h : k < xs.length) : (filled xs k)[k]? = some (.int .i64 0) := by
  simp only [filled, nums, List.getElem?_toArray, List.getElem?_map]
  rw [List.getElem?_append_right (by simp; omega)]
  simp [List.length_take, Nat.min_eq_left (Nat.le_of_lt h), List.getElem?_replicate]
  omega
theorem filled_next (xs : List Int) {k : Nat} (h : k < xs.length) : (filled xs k).setIfInBounds k (.int .i64 xs[k]) = filled xs (k + 1) := by
  apply Array.ext_getElem?
  intro j
  have hk : (xs.take k).length = k := by simp; omega
  have hk1 : (xs.take (k + 1)).length = k + 1 := by simp; omega
  rw [Array.getElem?_setIfInBounds]
  simp only [filled, nums, List.getElem?_toArray, List.getElem?_map, List.size_toArray, List.length_map, List.length_append, hk, List.length_replicate]
  by_cases hj : k = j
  · subst hj
    rw [if_pos rfl, if_pos (by omega), List.getElem?_append_left (by omega)]
    simp [h]
  · rw [if_neg hj]
    by_cases hlt : j < k
    · rw [List.getElem?_append_left (by omega), List.getElem?_append_left (by omega)]
      simp [hlt, Nat.lt_succ_of_lt hlt]
    · rw [List.getElem?_append_right (by omega), List.getElem?_append_right (by omega), hk, hk1]
      simp only [List.getElem?_replicate]
      by_cases hn : j < xs.length
      · rw [if_pos (by omega), if_pos (by omega)]
      · rw [if_neg (by omega), if_neg (by omega)]

theorem made_zeros (n : Nat) : madeCells (Value.int .i64 0).cells (n * 1) = (nums (List.replicate n 0)).toArray := by
  apply Array.ext_getElem?
  intro j
  simp [madeCells, nums, Value.cells, Nat.mod_one, Array.getElem?_range]
  by_cases h : j < n <;> simp [h]

theorem info_int : (Try.prog.info? 3).map (fun i => (i.zero, i.size, i.bytes)) = some (some (.int .i64 0), 1, 8) := by kernel_rfl

set_option maxHeartbeats 400000 in
theorem toIntS_any (A : Option Addr) (n c : Nat) (xs : List Int) (w : World) (hA : Holds w A (nums xs)) (hx : xs.length = n) (hn : n ≤ 1048576) :
    Calls Try.prog 62 #[.slice A n c] w fun e w' => e = .returned (.slice (some ⟨w.heap.size, 0, none⟩) n n) ∧ Whole w' w.heap.size 3 (nums xs).toArray ∧ Below w.heap.size w w' ∧ w'.heap.size = w.heap.size + 1 := by
  subst hx
  obtain ⟨i0, hi, hz0, hz1, hz2⟩ := info_parts info_int
  have hmk : ∀ W : World, (Instr.makeSlice 22 (.int .i64 (xs.length : Int)) (.int .i64 (xs.length : Int))).run Try.prog W = .ok (.slice (some ⟨W.heap.size, 0, none⟩) xs.length xs.length) (W.alloc (.cells (filled xs 0) 3)) := by
    intro W
    have h := run_make (P := Try.prog) W 22 3 i0 _ Try.underlying22 hi hz0 .i64 .i64 xs.length xs.length (by omega) (by omega) (by rw [hz2]; omega) (by omega)
    simp only [Int.toNat_natCast, hz1, made_zeros] at h
    rw [h]
    simp [filled]
  clear hi hz0 hz1 hz2
  go_enter Try.func62, Try.ntmps62
  go_wp2
  have h0 := Whole.fresh w 3 (filled xs 0)
  have hb0 : Below w.heap.size w (w.alloc (.cells (filled xs 0) 3)) := (Below.refl _ _).alloc (Nat.le_refl _) _
  go_loopw [4] (fun i wr => ∃ k : Nat, k ≤ xs.length ∧ i = .int .i64 k ∧ Whole wr w.heap.size 3 (filled xs k) ∧ Below w.heap.size w wr ∧ wr.heap.size = w.heap.size + 1) (fun i _ => xs.length - (intOf i).toNat)
  case atStart => exact ⟨0, Nat.zero_le _, rfl, h0, hb0, by simp⟩
  case round =>
    obtain ⟨k, hk, rfl, hw, hb, hs⟩ := hrel
    clear hmk h0 hb0
    by_cases hlt : k < xs.length
    · obtain ⟨b, o, rfl, hbl, hc⟩ := (hA.below hb).look (k := k) (by simpa [nums] using hlt)
      simp only [nums, List.getElem_map] at hc
      have hcell : wr.cell? ⟨w.heap.size, k, none⟩ = some (.int .i64 0) := (hw.cell k).trans (filled_at xs hlt)
      have hfr := hw.open_ k
      have hnext := hw.set_ k (.int .i64 xs[k])
      rw [filled_next xs hlt] at hnext
      have HS := Lib.hid hs
      clear hs
      go_wp2
      go_roundw
      case rel => exact ⟨k + 1, by omega, by go_num, hnext, hb.setCell (Nat.le_refl _) _, by simp [World.setCell]; exact HS.out⟩
      case measure => simp [intOf]; omega
    · have hkn : k = xs.length := by omega
      subst hkn
      rw [filled_done] at hw
      have HS := Lib.hid hs
      clear hs
      go_wp2
      go_ret
      exact ⟨rfl, hw, hb, HS.out⟩

/-- The same, the new row's block told by a letter. -/
theorem toIntS_own (A : Option Addr) (n c : Nat) (xs : List Int) (w : World) (hA : Holds w A (nums xs)) (hx : xs.length = n) (hn : n ≤ 1048576) :
    Calls Try.prog 62 #[.slice A n c] w fun e w' => ∃ g, e = .returned (.slice (some ⟨g, 0, none⟩) n n) ∧ w.heap.size ≤ g ∧ Whole w' g 3 (nums xs).toArray ∧ Below w.heap.size w w' :=
  (toIntS_any A n c xs w hA hx hn).mono fun _ _ ⟨he, hw, hb, _⟩ => ⟨_, he, Nat.le_refl _, hw, hb⟩

set_option maxHeartbeats 400000 in
theorem toParty_any (A : Option Addr) (n c : Nat) (xs : List Int) (s : Int) (w : World) (hA : Holds w A (nums xs)) (hx : xs.length = n) (hn : n ≤ 1048576) :
    Calls Try.prog 17 #[.agg #[.slice A n c, .int .i64 s]] w fun e w' => e = .returned (.agg #[.slice (some ⟨w.heap.size + 1 + 1 + 1, 0, none⟩) n n, .int .i64 s]) ∧ Whole w' (w.heap.size + 1 + 1 + 1) 3 (nums xs).toArray ∧ Below w.heap.size w w' := by
  have HX := Lib.hid hx
  clear hx
  go_enter Try.func17, Try.ntmps17
  go_wp2_with fail
  refine (toIntS_any A n c xs _ (((hA.alloc _).alloc _).alloc _) HX.out hn).mono ?_
  rintro e w1 ⟨rfl, hw, hb, hs⟩
  obtain ⟨hc, hf⟩ := kept hb
  have HS := Lib.hid hs
  have hz : w.heap.size + 3 < w1.heap.size := by have := HS.out; simp at this; omega
  clear hs
  have hw' : Whole w1 (w.heap.size + 1 + 1 + 1) 3 (nums xs).toArray := by simpa using hw
  have hb' : Below w.heap.size w w1 := below_then (below3 w _ _ _) hb (by simp; omega)
  clear hw
  go_wp2
  refine bodyPost_ret (v := .agg #[.slice (some ⟨w.heap.size + 1 + 1 + 1, 0, none⟩) n n, .int .i64 s]) (by simp [results, Try.results17, go_sem, hc]) rfl ⟨rfl, ?_, ?_⟩
  · exact (((hw'.off (by omega)).off (by omega)).off (by omega)).off (by omega)
  · exact below_set (below_set (below_set (below_set hb' (by omega)) (by omega)) (by omega)) (by omega)

/-- The same, the new row's block told by a letter. -/
theorem toParty_own (A : Option Addr) (n c : Nat) (xs : List Int) (s : Int) (w : World) (hA : Holds w A (nums xs)) (hx : xs.length = n) (hn : n ≤ 1048576) :
    Calls Try.prog 17 #[.agg #[.slice A n c, .int .i64 s]] w fun e w' => ∃ g, e = .returned (.agg #[.slice (some ⟨g, 0, none⟩) n n, .int .i64 s]) ∧ w.heap.size ≤ g ∧ Whole w' g 3 (nums xs).toArray ∧ Below w.heap.size w w' :=
  (toParty_any A n c xs s w hA hx hn).mono fun _ _ ⟨he, hw, hb⟩ => ⟨_, he, by omega, hw, hb⟩

set_option maxHeartbeats 400000 in
theorem eqParty_any (A B : Option Addr) (n m c d : Nat) (xs ys : List Int) (s t : Int) (w : World) (hA : Holds w A (nums xs)) (hB : Holds w B (nums ys)) (hx : xs.length = n) (hy : ys.length = m)
    (hn : n ≤ 9223372036854775807) (hm : m ≤ 9223372036854775807) :
    Calls Try.prog 19 #[.agg #[.slice A n c, .int .i64 s], .agg #[.slice B m d, .int .i64 t]] w fun e w' => e = .returned (.bool (sameInts xs ys && s == t)) ∧ Below w.heap.size w w' := by
  have HX := Lib.hid hx
  have HY := Lib.hid hy
  clear hx hy
  rcases (inferInstance : Decidable (s = t)) with hst | hst
  all_goals
    have hst1 : (s != t) = !decide (s = t) := by simp [bne, hst]
    simp only [hst, decide_false, decide_true, Bool.not_false, Bool.not_true] at hst1
    cases he : sameInts xs ys
  all_goals
    have HE := Lib.hid he
    clear he
    go_enter Try.func19, Try.ntmps19
    go_wp2_with fail
    refine (eqIntS_any A B n m c d xs ys _ ((hA.alloc _).alloc _) ((hB.alloc _).alloc _) HX.out HY.out hn hm).mono ?_
    rintro e w1 ⟨rfl, k, rfl⟩
    rw [HE.out]
    go_wp2
    go_ret
    exact ⟨ret_of (by simp_all), below_draws (below2 w _ _) k⟩

/-- Two parties of one reading are the same. -/
theorem eqParty_yes (A B : Option Addr) (n c d : Nat) (xs : List Int) (s : Int) (w : World) (hA : Holds w A (nums xs)) (hB : Holds w B (nums xs)) (hx : xs.length = n) (hn : n ≤ 9223372036854775807) :
    Calls Try.prog 19 #[.agg #[.slice A n c, .int .i64 s], .agg #[.slice B n d, .int .i64 s]] w fun e w' => e = .returned (.bool true) ∧ Below w.heap.size w w' :=
  (eqParty_any A B n n c d xs xs s s w hA hB hx hx hn hn).mono fun _ _ ⟨he, hb⟩ => ⟨by rw [he, sameInts_yes rfl]; simp, hb⟩
end Go.Proofs.Ytlpeimlbpiofkaa

namespace Go.Proofs.Ytlpeimlbpiofkaa
open Go.RowKit

/-- Does a number lie within bounds? -/
def within (n lo hi : Int) : Bool := decide (lo ≤ n ∧ n ≤ hi)
theorem within_yes {n lo hi : Int} (h1 : lo ≤ n) (h2 : n ≤ hi) : within n lo hi = true := by simp [within, h1, h2]
theorem within_no {n lo hi : Int} (h : n < lo ∨ hi < n) : within n lo hi = false := by simp [within]; omega
theorem within_iff {n lo hi : Int} : within n lo hi = true ↔ lo ≤ n ∧ n ≤ hi := by simp [within]
theorem within_false {n lo hi : Int} (h : within n lo hi = false) : n < lo ∨ hi < n := by simp [within] at h; omega

set_option maxHeartbeats 400000 in
theorem l1In_any (n lo hi : Int) (w : World) :
    Calls Try.prog 107 #[.int .i64 n, .int .i64 lo, .int .i64 hi] w fun e w' => e = .returned (.bool (within n lo hi)) ∧ w = w' := by
  by_cases h1 : lo ≤ n
  · by_cases h2 : n ≤ hi
    · have HW := Lib.hid (within_yes h1 h2)
      go_enter Try.func107, Try.ntmps107
      go_wp2
      go_ret
      exact ⟨ret_of (by rw [HW.out]; rfl), rfl⟩
    · have HW := Lib.hid (within_no (lo := lo) (.inr (Int.not_le.1 h2)))
      go_enter Try.func107, Try.ntmps107
      go_wp2
      go_ret
      exact ⟨ret_of (by rw [HW.out]; rfl), rfl⟩
  · have HW := Lib.hid (within_no (hi := hi) (.inl (Int.not_le.1 h1)))
    go_enter Try.func107, Try.ntmps107
    go_wp2
    go_ret
    exact ⟨ret_of (by rw [HW.out]; rfl), rfl⟩

/-- Do all numbers lie within bounds? -/
def allIn (xs : List Int) (lo hi : Int) : Bool := xs.all fun x => within x lo hi
theorem allIn_no {xs : List Int} {lo hi : Int} {k : Nat} (h : k < xs.length) (hw : within xs[k] lo hi = false) : allIn xs lo hi = false := by
  rw [allIn, List.all_eq_false]
  exact ⟨xs[k], List.getElem_mem h, by simp [hw]⟩
theorem allIn_yes {xs : List Int} {lo hi : Int} (h : ∀ k (hk : k < xs.length), within xs[k] lo hi = true) : allIn xs lo hi = true := by
  rw [allIn, List.all_eq_true]
  intro x hx
  obtain ⟨k, hk, rfl⟩ := List.getElem_of_mem hx
  exact h k hk

/-- All of the first k numbers lie within the bounds. -/
def SoFar (xs : List Int) (lo hi : Int) (k : Nat) : Prop := ∀ j (h : j < xs.length), j < k → within xs[j] lo hi = true

set_option maxHeartbeats 400000 in
theorem l1All_any (A : Option Addr) (n c : Nat) (xs : List Int) (lo hi : Int) (w : World) (hA : Holds w A (nums xs)) (hx : xs.length = n) (hn : n ≤ 9223372036854775807) :
    Calls Try.prog 108 #[.slice A n c, .int .i64 lo, .int .i64 hi] w fun e w' => e = .returned (.bool (allIn xs lo hi)) ∧ w = w' := by
  subst hx
  go_enter Try.func108, Try.ntmps108
  go_wp2
  go_loop [11] (fun i => ∃ k : Nat, k ≤ xs.length ∧ i = .int .i64 k ∧ SoFar xs lo hi k) (fun i => xs.length - (intOf i).toNat)
  case atStart => exact ⟨0, Nat.zero_le _, rfl, fun j _ hj => absurd hj (by omega)⟩
  case round =>
    obtain ⟨k, hk, rfl, hs⟩ := hrel
    by_cases hlt : k < xs.length
    · obtain ⟨b, o, rfl, hb, hc⟩ := hA.look (k := k) (by simpa [nums] using hlt)
      simp only [nums, List.getElem_map] at hc
      cases hw : within xs[k] lo hi
      · have HN := Lib.hid (allIn_no hlt hw)
        have HW := Lib.hid hw
        clear hw
        go_wp2_with (go_at_call 107; refine (l1In_any _ _ _ _).mono ?_; rintro e w' ⟨rfl, rfl⟩; rw [HW.out])
        go_ret
        exact ⟨ret_of (by rw [HN.out]; rfl), rfl⟩
      · have HW := Lib.hid hw
        clear hw
        go_wp2_with (go_at_call 107; refine (l1In_any _ _ _ _).mono ?_; rintro e w' ⟨rfl, rfl⟩; rw [HW.out])
        go_round
        case rel => exact ⟨k + 1, by omega, by go_num, fun j h hj => (Nat.lt_succ_iff_lt_or_eq.1 hj).elim (hs j h) (fun e => by subst e; exact HW.out)⟩
        case measure => simp [intOf]; omega
    · have HN := Lib.hid (allIn_yes (fun j h => hs j h (by omega)))
      go_wp2
      go_ret
      exact ⟨ret_of (by rw [HN.out]; rfl), rfl⟩

/-- A party, told in plain words: up to eight people with times up to 1000, up to three seats. -/
def isParty (xs : List Int) (s : Int) : Bool := within xs.length 1 8 && (allIn xs 1 1000 && within s 1 3)

set_option maxHeartbeats 400000 in
theorem paGood_any (A : Option Addr) (n c : Nat) (xs : List Int) (s : Int) (w : World) (hA : Holds w A (nums xs)) (hx : xs.length = n) (hn : n ≤ 9223372036854775807) :
    Calls Try.prog 60 #[.agg #[.slice A n c, .int .i64 s]] w fun e w' => e = .returned (.bool (isParty xs s)) ∧ Below w.heap.size w w' := by
  subst hx
  have hB := hA.alloc (.cells #[.slice A xs.length c, .int .i64 s] 28)
  cases h1 : within xs.length 1 8
  · have HP : Hid (isParty xs s = false) := by show _ = _; simp [isParty, h1]
    have H1 := Lib.hid h1
    clear h1
    go_enter Try.func60, Try.ntmps60
    go_wp2_with fail
    refine (l1In_any _ _ _ _).mono ?_
    rintro e w' ⟨rfl, rfl⟩
    rw [H1.out]
    go_wp2
    go_ret
    exact ⟨ret_of (by rw [HP.out]; rfl), below1 w _⟩
  · cases h2 : allIn xs 1 1000
    · have HP : Hid (isParty xs s = false) := by show _ = _; simp [isParty, h2]
      have H1 := Lib.hid h1
      have H2 := Lib.hid h2
      clear h1 h2
      go_enter Try.func60, Try.ntmps60
      go_wp2_with fail
      refine (l1In_any _ _ _ _).mono ?_
      rintro e w' ⟨rfl, rfl⟩
      rw [H1.out]
      go_wp2_with fail
      refine (l1All_any _ _ _ xs _ _ _ hB rfl hn).mono ?_
      rintro e w' ⟨rfl, rfl⟩
      rw [H2.out]
      go_wp2
      go_ret
      exact ⟨ret_of (by rw [HP.out]; rfl), below1 w _⟩
    · have HP : Hid (isParty xs s = within s 1 3) := by show _ = _; simp [isParty, h1, h2]
      have H1 := Lib.hid h1
      have H2 := Lib.hid h2
      clear h1 h2
      go_enter Try.func60, Try.ntmps60
      go_wp2_with fail
      refine (l1In_any _ _ _ _).mono ?_
      rintro e w' ⟨rfl, rfl⟩
      rw [H1.out]
      go_wp2_with fail
      refine (l1All_any _ _ _ xs _ _ _ hB rfl hn).mono ?_
      rintro e w' ⟨rfl, rfl⟩
      rw [H2.out]
      go_wp2_with fail
      refine (l1In_any _ _ _ _).mono ?_
      rintro e w' ⟨rfl, rfl⟩
      go_wp2
      go_ret
      exact ⟨ret_of (by rw [HP.out]; rfl), below1 w _⟩

end Go.Proofs.Ytlpeimlbpiofkaa

namespace Go.Proofs.Ytlpeimlbpiofkaa
open Go.RowKit

def leastOf : List Int → Int | [] => 0 | x :: l => l.foldl min x
def mostOf : List Int → Int | [] => 0 | x :: l => l.foldl max x
theorem leastOf_snoc {l : List Int} (h : l ≠ []) (x : Int) : leastOf (l ++ [x]) = min (leastOf l) x := by
  cases l with
  | nil => exact absurd rfl h
  | cons y l => simp [leastOf, List.foldl_append]
theorem mostOf_snoc {l : List Int} (h : l ≠ []) (x : Int) : mostOf (l ++ [x]) = max (mostOf l) x := by
  cases l with
  | nil => exact absurd rfl h
  | cons y l => simp [mostOf, List.foldl_append]
theorem le_foldl (l : List Int) (x b : Int) : b ≤ l.foldl min x ↔ b ≤ x ∧ ∀ y ∈ l, b ≤ y := by
  induction l generalizing x with
  | nil => simp
  | cons y l ih =>
    simp only [List.foldl_cons, ih, List.mem_cons, forall_eq_or_imp]
    constructor
    · rintro ⟨h, k⟩; exact ⟨by omega, by omega, k⟩
    · rintro ⟨h, k, m⟩; exact ⟨by omega, m⟩
theorem foldl_le (l : List Int) (x b : Int) : l.foldl max x ≤ b ↔ x ≤ b ∧ ∀ y ∈ l, y ≤ b := by
  induction l generalizing x with
  | nil => simp
  | cons y l ih =>
    simp only [List.foldl_cons, ih, List.mem_cons, forall_eq_or_imp]
    constructor
    · rintro ⟨h, k⟩; exact ⟨by omega, by omega, k⟩
    · rintro ⟨h, k, m⟩; exact ⟨by omega, m⟩
theorem le_leastOf {l : List Int} (h : l ≠ []) (b : Int) : b ≤ leastOf l ↔ ∀ y ∈ l, b ≤ y := by
  cases l with
  | nil => exact absurd rfl h
  | cons x l => simp [leastOf, le_foldl]
theorem mostOf_le {l : List Int} (h : l ≠ []) (b : Int) : mostOf l ≤ b ↔ ∀ y ∈ l, y ≤ b := by
  cases l with
  | nil => exact absurd rfl h
  | cons x l => simp [mostOf, foldl_le]
theorem allIn_iff (l : List Int) (lo hi : Int) : allIn l lo hi = true ↔ ∀ y ∈ l, lo ≤ y ∧ y ≤ hi := by simp [allIn, within]
theorem leastOf_next {xs : List Int} {k : Nat} (h0 : 0 < k) (hk : k < xs.length) : leastOf (xs.take (k + 1)) = min (leastOf (xs.take k)) xs[k] := by
  rw [List.take_succ_eq_append_getElem hk]
  exact leastOf_snoc (by intro h; have := congrArg List.length h; rw [List.length_take, List.length_nil] at this; omega) _
theorem mostOf_next {xs : List Int} {k : Nat} (h0 : 0 < k) (hk : k < xs.length) : mostOf (xs.take (k + 1)) = max (mostOf (xs.take k)) xs[k] := by
  rw [List.take_succ_eq_append_getElem hk]
  exact mostOf_snoc (by intro h; have := congrArg List.length h; rw [List.length_take, List.length_nil] at this; omega) _

set_option maxHeartbeats 400000 in
theorem sliceMin_any (A : Option Addr) (n c : Nat) (xs : List Int) (w : World) (hA : Holds w A (nums xs)) (hx : xs.length = n) (h0 : 0 < n) (hn : n ≤ 9223372036854775807) :
    Calls Try.prog 119 #[.slice A n c] w fun e w' => e = .returned (.int .i64 (leastOf xs)) ∧ w = w' := by
  subst hx
  obtain ⟨b, o, rfl, hb, hc⟩ := hA.look (k := 0) (by simpa [nums] using h0)
  simp only [nums, List.getElem_map, Nat.add_zero] at hc
  have h1 : (0 : Int) < xs.length := by omega
  go_enter Try.func119, Try.ntmps119
  go_wp2
  go_loop [3, 4] (fun m i => ∃ k : Nat, 0 < k ∧ k ≤ xs.length ∧ i = .int .i64 k ∧ m = .int .i64 (leastOf (xs.take k))) (fun _ i => xs.length - (intOf i).toNat)
  case atStart => exact ⟨1, by omega, by omega, rfl, by rw [List.take_succ_eq_append_getElem h0]; rfl⟩
  case round =>
    obtain ⟨k, hk0, hk, rfl, rfl⟩ := hrel
    clear hc
    by_cases hlt : k < xs.length
    · obtain ⟨b', o', hA', hb', hc⟩ := hA.look (k := k) (by simpa [nums] using hlt)
      simp only [Option.some.injEq, Addr.mk.injEq] at hA'
      obtain ⟨rfl, rfl, -⟩ := hA'
      simp only [nums, List.getElem_map] at hc
      have HS := Lib.hid (leastOf_next hk0 hlt)
      go_wp2
      go_round
      case rel => exact ⟨k + 1, by omega, by omega, by go_num, by first | (rw [HS.out]; done) | (rw [HS.out]; exact congrArg _ (by split <;> omega))⟩
      case measure => simp [intOf]; omega
    · have hkn : k = xs.length := by omega
      subst hkn
      go_wp2
      go_ret
      exact ⟨rfl, rfl⟩

set_option maxHeartbeats 400000 in
theorem sliceMax_any (A : Option Addr) (n c : Nat) (xs : List Int) (w : World) (hA : Holds w A (nums xs)) (hx : xs.length = n) (h0 : 0 < n) (hn : n ≤ 9223372036854775807) :
    Calls Try.prog 120 #[.slice A n c] w fun e w' => e = .returned (.int .i64 (mostOf xs)) ∧ w = w' := by
  subst hx
  obtain ⟨b, o, rfl, hb, hc⟩ := hA.look (k := 0) (by simpa [nums] using h0)
  simp only [nums, List.getElem_map, Nat.add_zero] at hc
  have h1 : (0 : Int) < xs.length := by omega
  go_enter Try.func120, Try.ntmps120
  go_wp2
  go_loop [3, 4] (fun m i => ∃ k : Nat, 0 < k ∧ k ≤ xs.length ∧ i = .int .i64 k ∧ m = .int .i64 (mostOf (xs.take k))) (fun _ i => xs.length - (intOf i).toNat)
  case atStart => exact ⟨1, by omega, by omega, rfl, by rw [List.take_succ_eq_append_getElem h0]; rfl⟩
  case round =>
    obtain ⟨k, hk0, hk, rfl, rfl⟩ := hrel
    clear hc
    by_cases hlt : k < xs.length
    · obtain ⟨b', o', hA', hb', hc⟩ := hA.look (k := k) (by simpa [nums] using hlt)
      simp only [Option.some.injEq, Addr.mk.injEq] at hA'
      obtain ⟨rfl, rfl, -⟩ := hA'
      simp only [nums, List.getElem_map] at hc
      have HS := Lib.hid (mostOf_next hk0 hlt)
      go_wp2
      go_round
      case rel => exact ⟨k + 1, by omega, by omega, by go_num, by first | (rw [HS.out]; done) | (rw [HS.out]; exact congrArg _ (by split <;> omega))⟩
      case measure => simp [intOf]; omega
    · have hkn : k = xs.length := by omega
      subst hkn
      go_wp2
      go_ret
      exact ⟨rfl, rfl⟩

theorem isParty_min {xs : List Int} {s : Int} (h1 : 0 < xs.length) (h : leastOf xs < 1) : isParty xs s = false := by
  have hne : xs ≠ [] := by intro e; subst e; simp at h1
  have h2 : allIn xs 1 1000 = false := by
    cases h3 : allIn xs 1 1000
    · rfl
    · have h4 := (le_leastOf hne 1).2 fun y hy => ((allIn_iff _ _ _).1 h3 y hy).1
      omega
  simp [isParty, h2]
theorem isParty_max {xs : List Int} {s : Int} (h1 : 0 < xs.length) (h : 1000 < mostOf xs) : isParty xs s = false := by
  have hne : xs ≠ [] := by intro e; subst e; simp at h1
  have h2 : allIn xs 1 1000 = false := by
    cases h3 : allIn xs 1 1000
    · rfl
    · have h4 := (mostOf_le hne 1000).2 fun y hy => ((allIn_iff _ _ _).1 h3 y hy).2
      omega
  simp [isParty, h2]
theorem isParty_yes {xs : List Int} {s : Int} (h1 : 0 < xs.length) (h8 : xs.length ≤ 8) (h : 1 ≤ leastOf xs) (h' : mostOf xs ≤ 1000) (hs : 1 ≤ s) (hs' : s ≤ 3) : isParty xs s = true := by
  have hne : xs ≠ [] := by intro e; subst e; simp at h1
  have h3 : allIn xs 1 1000 = true := (allIn_iff _ _ _).2 fun y hy => ⟨(le_leastOf hne 1).1 h y hy, (mostOf_le hne 1000).1 h' y hy⟩
  simp only [isParty, h3, within_yes hs hs', within_yes (show (1 : Int) ≤ xs.length by omega) (show (xs.length : Int) ≤ 8 by omega), Bool.and_self]
theorem isParty_len {xs : List Int} {s : Int} (h : xs.length < 1 ∨ 8 < xs.length) : isParty xs s = false := by
  simp only [isParty, within_no (show (xs.length : Int) < 1 ∨ (8 : Int) < xs.length by omega), Bool.false_and]
theorem isParty_seats {xs : List Int} {s : Int} (h : s < 1 ∨ 3 < s) : isParty xs s = false := by
  simp only [isParty, within_no h, Bool.and_false]

set_option maxHeartbeats 400000 in
theorem isParty_any (A : Option Addr) (n c : Nat) (xs : List Int) (s : Int) (w : World) (hA : Holds w A (nums xs)) (hx : xs.length = n) (hn : n ≤ 9223372036854775807) :
    Calls Try.prog 85 #[.agg #[.slice A n c, .int .i64 s]] w fun e w' => e = .returned (.bool (isParty xs s)) ∧ Below w.heap.size w w' := by
  subst hx
  have hB := hA.alloc (.cells #[.slice A xs.length c, .int .i64 s] 28)
  by_cases h1 : xs.length < 1
  · have HP := Lib.hid (isParty_len (s := s) (.inl h1))
    go_enter Try.func85, Try.ntmps85
    go_wp2
    go_ret
    exact ⟨ret_of (by rw [HP.out]; rfl), below1 w _⟩
  by_cases h8 : 8 < xs.length
  · have HP := Lib.hid (isParty_len (s := s) (.inr h8))
    go_enter Try.func85, Try.ntmps85
    go_wp2
    go_ret
    exact ⟨ret_of (by rw [HP.out]; rfl), below1 w _⟩
  by_cases hs1 : s < 1
  · have HP := Lib.hid (isParty_seats (xs := xs) (.inl hs1))
    go_enter Try.func85, Try.ntmps85
    go_wp2
    go_ret
    exact ⟨ret_of (by rw [HP.out]; rfl), below1 w _⟩
  by_cases hs3 : 3 < s
  · have HP := Lib.hid (isParty_seats (xs := xs) (.inr hs3))
    go_enter Try.func85, Try.ntmps85
    go_wp2
    go_ret
    exact ⟨ret_of (by rw [HP.out]; rfl), below1 w _⟩
  have hp : 0 < xs.length := by omega
  by_cases hl : leastOf xs < 1
  · have HP := Lib.hid (isParty_min (s := s) hp hl)
    go_enter Try.func85, Try.ntmps85
    go_wp2_with fail
    refine (sliceMin_any A _ c xs _ hB rfl hp hn).mono ?_
    rintro e w' ⟨rfl, rfl⟩
    go_wp2
    go_ret
    exact ⟨ret_of (by rw [HP.out]; rfl), below1 w _⟩
  by_cases hm : 1000 < mostOf xs
  · have HP := Lib.hid (isParty_max (s := s) hp hm)
    go_enter Try.func85, Try.ntmps85
    go_wp2_with fail
    refine (sliceMin_any A _ c xs _ hB rfl hp hn).mono ?_
    rintro e w' ⟨rfl, rfl⟩
    go_wp2_with fail
    refine (sliceMax_any A _ c xs _ hB rfl hp hn).mono ?_
    rintro e w' ⟨rfl, rfl⟩
    go_wp2
    go_ret
    exact ⟨ret_of (by rw [HP.out]; show Value.bool (decide (mostOf xs ≤ 1000)) = _; rw [decide_eq_false (by omega)]), below1 w _⟩
  · have HP := Lib.hid (isParty_yes (s := s) hp (by omega) (by omega) (by omega) (by omega) (by omega))
    go_enter Try.func85, Try.ntmps85
    go_wp2_with fail
    refine (sliceMin_any A _ c xs _ hB rfl hp hn).mono ?_
    rintro e w' ⟨rfl, rfl⟩
    go_wp2_with fail
    refine (sliceMax_any A _ c xs _ hB rfl hp hn).mono ?_
    rintro e w' ⟨rfl, rfl⟩
    go_wp2
    go_ret
    exact ⟨ret_of (by rw [HP.out]; rfl), below1 w _⟩
end Go.Proofs.Ytlpeimlbpiofkaa

namespace Go.Proofs.Ytlpeimlbpiofkaa
open Go.RowKit

set_option maxHeartbeats 400000 in
theorem szBoolS_any (A : Option Addr) (n c : Nat) (l : Int) (w : World) (hn : n ≤ 9223372036854775807) (h0 : 0 ≤ l) (h1 : l ≤ 1048576) :
    Calls Try.prog 73 #[.slice A n c, .int .i64 l] w fun e w' => e = .returned (.int .i64 (if l < n then -1 else l - n)) ∧ w = w' := by
  by_cases h : l < n
  · have h' : l - n < 0 := by omega
    go_enter Try.func73, Try.ntmps73
    go_wp2
    go_ret
    exact ⟨rfl, rfl⟩
  · have h' : ¬ l - n < 0 := by omega
    go_enter Try.func73, Try.ntmps73
    go_wp2
    go_ret
    exact ⟨rfl, rfl⟩

set_option maxHeartbeats 400000 in
theorem szState_any (A : Option Addr) (n c : Nat) (s : Bool) (l : Int) (w : World) (hn : n ≤ 9223372036854775807) (h0 : 0 ≤ l) (h1 : l ≤ 1048576) :
    Calls Try.prog 28 #[.agg #[.slice A n c, .bool s], .int .i64 l] w fun e w' => e = .returned (.int .i64 (if l < n then -1 else l - n)) ∧ Below w.heap.size w w' := by
  by_cases h : l < n
  all_goals
    go_enter Try.func28, Try.ntmps28
    go_wp2_with fail
    refine (szBoolS_any A n c l _ hn h0 h1).mono ?_
    rintro e w' ⟨rfl, rfl⟩
    first | rw [if_pos (by assumption)] | rw [if_neg (by omega)]
    go_wp2
    go_ret
    exact ⟨rfl, (Below.refl _ _).alloc (Nat.le_refl _) _⟩

/-- Are two lists of numbers one and the same? -/
def sameBits (a b : List Bool) : Bool := a == b
theorem sameBits_yes {a b : List Bool} (h : a = b) : sameBits a b = true := by simp [sameBits, h]
theorem sameBits_no {a b : List Bool} (h : a ≠ b) : sameBits a b = false := by simp [sameBits, h]

theorem take_nextB {a b : List Bool} {k : Nat} (ha : k < a.length) (hb : k < b.length) (h : a.take k = b.take k) (he : a[k] = b[k]) : a.take (k + 1) = b.take (k + 1) := by
  rw [List.take_succ_eq_append_getElem ha, List.take_succ_eq_append_getElem hb, h, he]

set_option maxHeartbeats 400000 in
theorem eqBoolS_any (A B : Option Addr) (n m c d : Nat) (xs ys : List Bool) (w : World) (hA : Holds w A (bits xs)) (hB : Holds w B (bits ys)) (hx : xs.length = n) (hy : ys.length = m)
    (hn : n ≤ 9223372036854775807) (hm : m ≤ 9223372036854775807) :
    Calls Try.prog 81 #[.slice A n c, .slice B m d] w fun e w' => e = .returned (.bool (sameBits xs ys)) ∧ ∃ k, w' = w.drewN k := by
  subst hx hy
  by_cases hl : xs.length = ys.length
  · have hl' : ((xs.length : Int) != (ys.length : Int)) = false := by simp [hl]
    have HL := Lib.hid hl
    clear hl
    go_enter Try.func81, Try.ntmps81
    go_wp2
    go_loopw [5] (fun i wr => ∃ k q : Nat, k ≤ xs.length ∧ i = .int .i64 k ∧ wr = w.drewN q ∧ xs.take k = ys.take k) (fun i _ => xs.length - (intOf i).toNat)
    case atStart => exact ⟨0, 0, Nat.zero_le _, rfl, rfl, rfl⟩
    case round =>
      obtain ⟨k, q, hk, rfl, rfl, ht⟩ := hrel
      have HT := Lib.hid ht
      clear ht
      by_cases hlt : k < xs.length
      · have hlt' : k < ys.length := by have := HL.out; omega
        obtain ⟨b, o, rfl, hb, hc⟩ := hA.look (k := k) (by simpa [bits] using hlt)
        obtain ⟨b', o', rfl, hb', hc'⟩ := hB.look (k := k) (by simpa [bits] using hlt')
        simp only [bits, List.getElem_map] at hc hc'
        by_cases he : xs[k] = ys[k]
        · have hne : (!(xs[k] == ys[k])) = false := by simp [he]
          have HE := Lib.hid he
          clear he
          go_wp2
          go_quiet (fail)
          go_wp2
          go_roundw
          case rel => exact ⟨k + 1, _, by omega, by go_num, rfl, take_nextB hlt hlt' HT.out HE.out⟩
          case measure => simp [intOf]; omega
        · have hne : (!(xs[k] == ys[k])) = true := by simp [he]
          have HN := Lib.hid (sameBits_no (fun h : xs = ys => he (by subst h; rfl)))
          clear he
          go_wp2
          go_quiet (fail)
          go_wp2
          go_ret
          exact ⟨by rw [HN.out]; rfl, q + _, World.drewN_drewN _ _ _⟩
      · have h1 := HT.out
        rw [List.take_of_length_le (by omega), List.take_of_length_le (by have := HL.out; omega)] at h1
        have HN := Lib.hid (sameBits_yes h1)
        clear h1
        go_wp2
        go_ret
        exact ⟨by rw [HN.out]; rfl, _, rfl⟩
  · have hl' : ((xs.length : Int) != (ys.length : Int)) = true := by simp; omega
    have HN := Lib.hid (sameBits_no (fun h : xs = ys => hl (by rw [h])))
    clear hl
    go_enter Try.func81, Try.ntmps81
    go_wp2
    go_ret
    exact ⟨by rw [HN.out]; rfl, 0, rfl⟩

/-- What stands in the copy behind k rounds: the first k numbers, zeros behind them. -/
def filledB (xs : List Bool) (k : Nat) : Array Value := (bits (xs.take k ++ List.replicate (xs.length - k) false)).toArray
theorem filledB_done (xs : List Bool) : filledB xs xs.length = (bits xs).toArray := by simp [filledB]
theorem filledB_at (xs : List Bool) {k : Nat} (h : k < xs.length) : (filledB xs k)[k]? = some (.bool false) := by
  simp only [filledB, bits, List.getElem?_toArray, List.getElem?_map]
  rw [List.getElem?_append_right (by simp; omega)]
  simp [List.length_take, Nat.min_eq_left (Nat.le_of_lt h), List.getElem?_replicate]
  omega
theorem filledB_next (xs : List Bool) {k : Nat} (h : k < xs.length) : (filledB xs k).setIfInBounds k (.bool xs[k]) = filledB xs (k + 1) := by
  apply Array.ext_getElem?
  intro j
  have hk : (xs.take k).length = k := by simp; omega
  have hk1 : (xs.take (k + 1)).length = k + 1 := by simp; omega
  rw [Array.getElem?_setIfInBounds]
  simp only [filledB, bits, List.getElem?_toArray, List.getElem?_map, List.size_toArray, List.length_map, List.length_append, hk, List.length_replicate]
  by_cases hj : k = j
  · subst hj
    rw [if_pos rfl, if_pos (by omega), List.getElem?_append_left (by omega)]
    simp [h]
  · rw [if_neg hj]
    by_cases hlt : j < k
    · rw [List.getElem?_append_left (by omega), List.getElem?_append_left (by omega)]
      simp [hlt, Nat.lt_succ_of_lt hlt]
    · rw [List.getElem?_append_right (by omega), List.getElem?_append_right (by omega), hk, hk1]
      simp only [List.getElem?_replicate]
      by_cases hn : j < xs.length
      · rw [if_pos (by omega), if_pos (by omega)]
      · rw [if_neg (by omega), if_neg (by omega)]

theorem made_falses (n : Nat) : madeCells (Value.bool false).cells (n * 1) = (bits (List.replicate n false)).toArray := by
  apply Array.ext_getElem?
  intro j
  simp [madeCells, bits, Value.cells, Nat.mod_one, Array.getElem?_range]
  by_cases h : j < n <;> simp [h]

theorem info_bool : (Try.prog.info? 4).map (fun i => (i.zero, i.size, i.bytes)) = some (some (.bool false), 1, 1) := by kernel_rfl

set_option maxHeartbeats 400000 in
theorem toBoolS_any (A : Option Addr) (n c : Nat) (xs : List Bool) (w : World) (hA : Holds w A (bits xs)) (hx : xs.length = n) (hn : n ≤ 1048576) :
    Calls Try.prog 78 #[.slice A n c] w fun e w' => e = .returned (.slice (some ⟨w.heap.size, 0, none⟩) n n) ∧ Whole w' w.heap.size 4 (bits xs).toArray ∧ Below w.heap.size w w' ∧ w'.heap.size = w.heap.size + 1 := by
  subst hx
  obtain ⟨i0, hi, hz0, hz1, hz2⟩ := info_parts info_bool
  have hmk : ∀ W : World, (Instr.makeSlice 38 (.int .i64 (xs.length : Int)) (.int .i64 (xs.length : Int))).run Try.prog W = .ok (.slice (some ⟨W.heap.size, 0, none⟩) xs.length xs.length) (W.alloc (.cells (filledB xs 0) 4)) := by
    intro W
    have h := run_make (P := Try.prog) W 38 4 i0 _ Try.underlying38 hi hz0 .i64 .i64 xs.length xs.length (by omega) (by omega) (by rw [hz2]; omega) (by omega)
    simp only [Int.toNat_natCast, hz1, made_falses] at h
    rw [h]
    simp [filledB]
  clear hi hz0 hz1 hz2
  go_enter Try.func78, Try.ntmps78
  go_wp2
  have h0 := Whole.fresh w 4 (filledB xs 0)
  have hb0 : Below w.heap.size w (w.alloc (.cells (filledB xs 0) 4)) := (Below.refl _ _).alloc (Nat.le_refl _) _
  go_loopw [4] (fun i wr => ∃ k : Nat, k ≤ xs.length ∧ i = .int .i64 k ∧ Whole wr w.heap.size 4 (filledB xs k) ∧ Below w.heap.size w wr ∧ wr.heap.size = w.heap.size + 1) (fun i _ => xs.length - (intOf i).toNat)
  case atStart => exact ⟨0, Nat.zero_le _, rfl, h0, hb0, by simp⟩
  case round =>
    obtain ⟨k, hk, rfl, hw, hb, hs⟩ := hrel
    clear hmk h0 hb0
    by_cases hlt : k < xs.length
    · obtain ⟨b, o, rfl, hbl, hc⟩ := (hA.below hb).look (k := k) (by simpa [bits] using hlt)
      simp only [bits, List.getElem_map] at hc
      have hcell : wr.cell? ⟨w.heap.size, k, none⟩ = some (.bool false) := (hw.cell k).trans (filledB_at xs hlt)
      have hfr := hw.open_ k
      have hnext := hw.set_ k (.bool xs[k])
      rw [filledB_next xs hlt] at hnext
      have HS := Lib.hid hs
      clear hs
      go_wp2
      go_roundw
      case rel => exact ⟨k + 1, by omega, by go_num, hnext, hb.setCell (Nat.le_refl _) _, by simp [World.setCell]; exact HS.out⟩
      case measure => simp [intOf]; omega
    · have hkn : k = xs.length := by omega
      subst hkn
      rw [filledB_done] at hw
      have HS := Lib.hid hs
      clear hs
      go_wp2
      go_ret
      exact ⟨rfl, hw, hb, HS.out⟩

set_option maxHeartbeats 400000 in
theorem toState_any (A : Option Addr) (n c : Nat) (xs : List Bool) (s : Bool) (w : World) (hA : Holds w A (bits xs)) (hx : xs.length = n) (hn : n ≤ 1048576) :
    Calls Try.prog 30 #[.agg #[.slice A n c, .bool s]] w fun e w' => e = .returned (.agg #[.slice (some ⟨w.heap.size + 1 + 1 + 1, 0, none⟩) n n, .bool s]) ∧ Whole w' (w.heap.size + 1 + 1 + 1) 4 (bits xs).toArray ∧ Below w.heap.size w w' := by
  have HX := Lib.hid hx
  clear hx
  go_enter Try.func30, Try.ntmps30
  go_wp2_with fail
  refine (toBoolS_any A n c xs _ (((hA.alloc _).alloc _).alloc _) HX.out hn).mono ?_
  rintro e w1 ⟨rfl, hw, hb, hs⟩
  obtain ⟨hc, hf⟩ := kept hb
  have HS := Lib.hid hs
  have hz : w.heap.size + 3 < w1.heap.size := by have := HS.out; simp at this; omega
  clear hs
  have hw' : Whole w1 (w.heap.size + 1 + 1 + 1) 4 (bits xs).toArray := by simpa using hw
  have hb' : Below w.heap.size w w1 := below_then (below3 w _ _ _) hb (by simp; omega)
  clear hw
  go_wp2
  refine bodyPost_ret (v := .agg #[.slice (some ⟨w.heap.size + 1 + 1 + 1, 0, none⟩) n n, .bool s]) (by simp [results, Try.results30, go_sem, hc]) rfl ⟨rfl, ?_, ?_⟩
  · exact (((hw'.off (by omega)).off (by omega)).off (by omega)).off (by omega)
  · exact below_set (below_set (below_set (below_set hb' (by omega)) (by omega)) (by omega)) (by omega)

/-- The same, the new row's block told by a letter. -/
theorem toState_own (A : Option Addr) (n c : Nat) (xs : List Bool) (s : Bool) (w : World) (hA : Holds w A (bits xs)) (hx : xs.length = n) (hn : n ≤ 1048576) :
    Calls Try.prog 30 #[.agg #[.slice A n c, .bool s]] w fun e w' => ∃ g, e = .returned (.agg #[.slice (some ⟨g, 0, none⟩) n n, .bool s]) ∧ w.heap.size ≤ g ∧ Whole w' g 4 (bits xs).toArray ∧ Below w.heap.size w w' :=
  (toState_any A n c xs s w hA hx hn).mono fun _ _ ⟨he, hw, hb⟩ => ⟨_, he, by omega, hw, hb⟩

set_option maxHeartbeats 400000 in
theorem eqState_any (A B : Option Addr) (n m c d : Nat) (xs ys : List Bool) (s t : Bool) (w : World) (hA : Holds w A (bits xs)) (hB : Holds w B (bits ys)) (hx : xs.length = n) (hy : ys.length = m)
    (hn : n ≤ 9223372036854775807) (hm : m ≤ 9223372036854775807) :
    Calls Try.prog 32 #[.agg #[.slice A n c, .bool s], .agg #[.slice B m d, .bool t]] w fun e w' => e = .returned (.bool (sameBits xs ys && s == t)) ∧ Below w.heap.size w w' := by
  have HX := Lib.hid hx
  have HY := Lib.hid hy
  clear hx hy
  rcases (inferInstance : Decidable (s = t)) with hst | hst
  all_goals
    have hst1 : (!(s == t)) = !decide (s = t) := by simp [hst]
    simp only [hst, decide_false, decide_true, Bool.not_false, Bool.not_true] at hst1
    cases he : sameBits xs ys
  all_goals
    have HE := Lib.hid he
    clear he
    go_enter Try.func32, Try.ntmps32
    go_wp2_with fail
    refine (eqBoolS_any A B n m c d xs ys _ ((hA.alloc _).alloc _) ((hB.alloc _).alloc _) HX.out HY.out hn hm).mono ?_
    rintro e w1 ⟨rfl, k, rfl⟩
    rw [HE.out]
    go_wp2
    go_ret
    exact ⟨ret_of (by simp_all), below_draws (below2 w _ _) k⟩

/-- Two parties of one reading are the same. -/
theorem eqState_yes (A B : Option Addr) (n c d : Nat) (xs : List Bool) (s : Bool) (w : World) (hA : Holds w A (bits xs)) (hB : Holds w B (bits xs)) (hx : xs.length = n) (hn : n ≤ 9223372036854775807) :
    Calls Try.prog 32 #[.agg #[.slice A n c, .bool s], .agg #[.slice B n d, .bool s]] w fun e w' => e = .returned (.bool true) ∧ Below w.heap.size w w' :=
  (eqState_any A B n n c d xs xs s s w hA hB hx hx hn hn).mono fun _ _ ⟨he, hb⟩ => ⟨by rw [he, sameBits_yes rfl]; simp, hb⟩
end Go.Proofs.Ytlpeimlbpiofkaa

namespace Go.Proofs.Ytlpeimlbpiofkaa
open Go.RowKit

/-- A state, told in plain words: as long as the party, and the torch is where somebody is. -/
def isState (n : Nat) (bs : List Bool) (t : Bool) : Bool := decide (bs.length = n) && bs.any (· == t)
theorem isState_len {n : Nat} {bs : List Bool} {t : Bool} (h : bs.length ≠ n) : isState n bs t = false := by simp [isState, h]
theorem isState_has {n : Nat} {bs : List Bool} {t : Bool} (h : bs.length = n) {k : Nat} (hk : k < bs.length) (he : bs[k] = t) : isState n bs t = true := by
  simp only [isState, h, decide_true, Bool.true_and, List.any_eq_true]
  exact ⟨bs[k], List.getElem_mem hk, by simp [he]⟩
theorem isState_none {n : Nat} {bs : List Bool} {t : Bool} (h : ∀ j (hj : j < bs.length), bs[j] ≠ t) : isState n bs t = false := by
  have : bs.any (· == t) = false := by
    rw [List.any_eq_false]
    intro x hx
    obtain ⟨j, hj, rfl⟩ := List.getElem_of_mem hx
    simpa using h j hj
  simp [isState, this]

/-- None of the first k stands where t is. -/
def NoneYet (bs : List Bool) (t : Bool) (k : Nat) : Prop := ∀ j (h : j < bs.length), j < k → bs[j] ≠ t
theorem NoneYet.start (bs : List Bool) (t : Bool) : NoneYet bs t 0 := fun _ _ h => absurd h (by omega)
theorem NoneYet.next {bs : List Bool} {t : Bool} {k : Nat} (h : NoneYet bs t k) (hk : k < bs.length) (hne : bs[k] ≠ t) : NoneYet bs t (k + 1) := fun j hj hlt =>
  (Nat.lt_succ_iff_lt_or_eq.1 hlt).elim (h j hj) (fun e => by subst e; exact hne)
theorem NoneYet.all {bs : List Bool} {t : Bool} {k : Nat} (h : NoneYet bs t k) (hk : bs.length ≤ k) : ∀ j (hj : j < bs.length), bs[j] ≠ t := fun j hj => h j hj (by omega)

set_option maxHeartbeats 400000 in
theorem paState_any (A B : Option Addr) (n c m d : Nat) (bs : List Bool) (s : Int) (t : Bool) (w : World) (hB : Holds w B (bits bs)) (hy : bs.length = m) (hm : m ≤ 9223372036854775807) :
    Calls Try.prog 82 #[.agg #[.slice A n c, .int .i64 s], .agg #[.slice B m d, .bool t]] w fun e w' => e = .returned (.bool (isState n bs t)) ∧ Below w.heap.size w w' := by
  subst hy
  have hB2 := (hB.alloc (.cells #[.slice A n c, .int .i64 s] 28)).alloc (.cells #[.slice B bs.length d, .bool t] 44)
  by_cases hl : bs.length = n
  · have hl' : ((bs.length : Int) != (n : Int)) = false := by simp [hl]
    have HL := Lib.hid hl
    clear hl
    go_enter Try.func82, Try.ntmps82
    go_wp2
    go_loop [17] (fun i => ∃ k : Nat, k ≤ bs.length ∧ i = .int .i64 k ∧ NoneYet bs t k) (fun i => bs.length - (intOf i).toNat)
    case atStart => exact ⟨0, Nat.zero_le _, rfl, NoneYet.start _ _⟩
    case round =>
      obtain ⟨k, hk, rfl, hs⟩ := hrel
      by_cases hlt : k < bs.length
      · obtain ⟨b, o, rfl, hb, hc⟩ := hB2.look (k := k) (by simpa [bits] using hlt)
        simp only [bits, List.getElem_map] at hc
        by_cases he : bs[k] = t
        · have HP := Lib.hid (isState_has HL.out hlt he)
          have ht : (bs[k] == t) = true := by simp [he]
          clear he
          go_wp2
          go_ret
          exact ⟨ret_of (by rw [HP.out]; rfl), below2 w _ _⟩
        · have ht : (bs[k] == t) = false := by simp [he]
          have HN := Lib.hid he
          clear he
          go_wp2
          go_round
          case rel => exact ⟨k + 1, by omega, by go_num, hs.next hlt HN.out⟩
          case measure => simp [intOf]; omega
      · have HP := Lib.hid (isState_none (n := n) (hs.all (by omega)))
        go_wp2
        go_ret
        exact ⟨ret_of (by rw [HP.out]; rfl), below2 w _ _⟩
  · have hl' : ((bs.length : Int) != (n : Int)) = true := by simp; omega
    have HP := Lib.hid (isState_len (t := t) hl)
    clear hl
    go_enter Try.func82, Try.ntmps82
    go_wp2
    go_ret
    exact ⟨ret_of (by rw [HP.out]; rfl), below2 w _ _⟩

/-- What Index hands back: a place from 0 on where t stands, or -1 where it stands nowhere. -/
def IndexPost (bs : List Bool) (t : Bool) (w : World) (e : Ending) (w' : World) : Prop := ∃ r : Int, e = .returned (.int .i64 r) ∧ decide (0 ≤ r) = bs.any (· == t) ∧ w = w'

set_option maxHeartbeats 400000 in
theorem sliceIndexB_any (B : Option Addr) (m d : Nat) (bs : List Bool) (t : Bool) (w : World) (hB : Holds w B (bits bs)) (hy : bs.length = m) (hm : m ≤ 9223372036854775807) :
    Calls Try.prog 136 #[.slice B m d, .bool t] w (IndexPost bs t w) := by
  subst hy
  go_enter Try.func136, Try.ntmps136
  go_wp2
  go_loop [8] (fun i => ∃ k : Nat, k ≤ bs.length ∧ i = .int .i64 k ∧ NoneYet bs t k) (fun i => bs.length - (intOf i).toNat)
  case atStart => exact ⟨0, Nat.zero_le _, rfl, NoneYet.start _ _⟩
  case round =>
    obtain ⟨k, hk, rfl, hs⟩ := hrel
    by_cases hlt : k < bs.length
    · obtain ⟨b, o, rfl, hb, hc⟩ := hB.look (k := k) (by simpa [bits] using hlt)
      simp only [bits, List.getElem_map] at hc
      by_cases he : bs[k] = t
      · have HP : Hid (bs.any (· == t) = true) := by
          show _ = _
          rw [List.any_eq_true]
          exact ⟨bs[k], List.getElem_mem hlt, by simp [he]⟩
        have ht : (t == bs[k]) = true := by simp [he]
        clear he
        go_wp2
        go_ret
        exact ⟨(k : Int), rfl, by rw [HP.out]; simp, rfl⟩
      · have ht : (t == bs[k]) = false := by simp; exact fun h => he h.symm
        have HN := Lib.hid he
        clear he
        go_wp2
        go_round
        case rel => exact ⟨k + 1, by omega, by go_num, hs.next hlt HN.out⟩
        case measure => simp [intOf]; omega
    · have HP : Hid (bs.any (· == t) = false) := by
        show _ = _
        rw [List.any_eq_false]
        intro x hx
        obtain ⟨j, hj, rfl⟩ := List.getElem_of_mem hx
        simpa using hs.all (by omega) j hj
      go_wp2
      go_ret
      exact ⟨-1, rfl, by rw [HP.out]; rfl, rfl⟩

set_option maxHeartbeats 400000 in
theorem containsB_any (B : Option Addr) (m d : Nat) (bs : List Bool) (t : Bool) (w : World) (hB : Holds w B (bits bs)) (hy : bs.length = m) (hm : m ≤ 9223372036854775807) :
    Calls Try.prog 99 #[.slice B m d, .bool t] w fun e w' => e = .returned (.bool (bs.any (· == t))) ∧ w = w' := by
  have HY := Lib.hid hy
  clear hy
  go_enter Try.func99, Try.ntmps99
  go_wp2_with fail
  refine (sliceIndexB_any B m d bs t _ hB HY.out hm).mono ?_
  rintro e w' ⟨r, rfl, hr, rfl⟩
  have HR := Lib.hid hr
  clear hr
  go_wp2
  go_ret
  exact ⟨ret_of (by rw [← HR.out]; rfl), rfl⟩

/-- The cells of a place: eight people, of whom the party's are told, and the torch. -/
def placeCells (bs : List Bool) (t : Bool) : Array Value := #[.bool (bs.getD 0 false), .bool (bs.getD 1 false), .bool (bs.getD 2 false), .bool (bs.getD 3 false), .bool (bs.getD 4 false), .bool (bs.getD 5 false), .bool (bs.getD 6 false), .bool (bs.getD 7 false), .bool t]

set_option maxHeartbeats 400000 in
theorem placeOf_no (B : Option Addr) (n m d : Nat) (bs : List Bool) (t : Bool) (w : World) (hB : Holds w B (bits bs)) (hy : bs.length = m) (hm : m ≤ 9223372036854775807) (h : isState n bs t = false) :
    Calls Try.prog 116 #[.int .i64 n, .agg #[.slice B m d, .bool t]] w fun e w' => e = .returned (.tuple #[.agg (placeCells [] false), .bool false]) ∧ Below w.heap.size w w' := by
  subst hy
  have HB := hB.alloc (.cells #[.slice B bs.length d, .bool t] 44)
  by_cases hl : bs.length = n
  · have hl' : ((bs.length : Int) != (n : Int)) = false := by simp [hl]
    have hc : bs.any (· == t) = false := by simpa [isState, hl] using h
    have HC := Lib.hid hc
    clear hl hc h
    go_enter Try.func116, Try.ntmps116
    go_wp2_with fail
    refine (containsB_any B _ d bs t _ (HB.alloc _) rfl hm).mono ?_
    rintro e w1 ⟨rfl, rfl⟩
    rw [HC.out]
    go_wp2
    go_returns
    exact ⟨rfl, below2 w _ _⟩
  · have hl' : ((bs.length : Int) != (n : Int)) = true := by simp; omega
    clear hl h
    go_enter Try.func116, Try.ntmps116
    go_wp2
    go_returns
    exact ⟨rfl, below2 w _ _⟩

theorem place_cells {w : World} {g : Nat} {ty : TypeId} {bs : List Bool} {t : Bool} (h : Whole w g ty (placeCells bs t)) :
    w.cell? ⟨g, 0, none⟩ = some (.bool (bs.getD 0 false)) ∧ w.cell? ⟨g, 1, none⟩ = some (.bool (bs.getD 1 false)) ∧ w.cell? ⟨g, 2, none⟩ = some (.bool (bs.getD 2 false)) ∧ w.cell? ⟨g, 3, none⟩ = some (.bool (bs.getD 3 false)) ∧
    w.cell? ⟨g, 4, none⟩ = some (.bool (bs.getD 4 false)) ∧ w.cell? ⟨g, 5, none⟩ = some (.bool (bs.getD 5 false)) ∧ w.cell? ⟨g, 6, none⟩ = some (.bool (bs.getD 6 false)) ∧ w.cell? ⟨g, 7, none⟩ = some (.bool (bs.getD 7 false)) ∧
    w.cell? ⟨g, 8, none⟩ = some (.bool t) :=
  ⟨(h.cell 0).trans rfl, (h.cell 1).trans rfl, (h.cell 2).trans rfl, (h.cell 3).trans rfl, (h.cell 4).trans rfl, (h.cell 5).trans rfl, (h.cell 6).trans rfl, (h.cell 7).trans rfl, (h.cell 8).trans rfl⟩
theorem place_open {w : World} {g : Nat} {ty : TypeId} {cs : Array Value} (h : Whole w g ty cs) :
    w.frozen? ⟨g, 0, none⟩ = false ∧ w.frozen? ⟨g, 1, none⟩ = false ∧ w.frozen? ⟨g, 2, none⟩ = false ∧ w.frozen? ⟨g, 3, none⟩ = false ∧ w.frozen? ⟨g, 4, none⟩ = false ∧ w.frozen? ⟨g, 5, none⟩ = false ∧ w.frozen? ⟨g, 6, none⟩ = false ∧ w.frozen? ⟨g, 7, none⟩ = false ∧ w.frozen? ⟨g, 8, none⟩ = false :=
  ⟨h.open_ 0, h.open_ 1, h.open_ 2, h.open_ 3, h.open_ 4, h.open_ 5, h.open_ 6, h.open_ 7, h.open_ 8⟩
theorem set_place {w : World} {g B : Nat} {a : World} {v0 v1 v2 v3 v4 v5 v6 v7 v8 : Value} (h : Below B a w) (hg : B ≤ g) :
    Below B a (((((((((w.setCell ⟨g, 0, none⟩ v0).setCell ⟨g, 1, none⟩ v1).setCell ⟨g, 2, none⟩ v2).setCell ⟨g, 3, none⟩ v3).setCell ⟨g, 4, none⟩ v4).setCell ⟨g, 5, none⟩ v5).setCell ⟨g, 6, none⟩ v6).setCell ⟨g, 7, none⟩ v7).setCell ⟨g, 8, none⟩ v8) :=
  below_set (below_set (below_set (below_set (below_set (below_set (below_set (below_set (below_set h hg) hg) hg) hg) hg) hg) hg) hg) hg

theorem size_bool : (Try.prog.info? 4).map (·.size) = some 1 := by kernel_rfl

theorem splice_place (bs : List Bool) (t : Bool) (h : bs.length ≤ 8) : splice (placeCells [] t).toList 0 (bits bs) = (placeCells bs t).toList := by
  match bs, h with
  | [], _ => rfl
  | [_], _ => rfl
  | [_, _], _ => rfl
  | [_, _, _], _ => rfl
  | [_, _, _, _], _ => rfl
  | [_, _, _, _, _], _ => rfl
  | [_, _, _, _, _, _], _ => rfl
  | [_, _, _, _, _, _, _], _ => rfl
  | [_, _, _, _, _, _, _, _], _ => rfl
  | _ :: _ :: _ :: _ :: _ :: _ :: _ :: _ :: _ :: _, h => simp at h

set_option maxHeartbeats 800000 in
theorem placeOf_yes (B : Option Addr) (n m d : Nat) (bs : List Bool) (t : Bool) (w : World) (hB : Holds w B (bits bs)) (hy : bs.length = m) (hn : n ≤ 8) (h : isState n bs t = true) :
    Calls Try.prog 116 #[.int .i64 n, .agg #[.slice B m d, .bool t]] w fun e w' => e = .returned (.tuple #[.agg (placeCells bs t), .bool true]) ∧ Below w.heap.size w w' := by
  subst hy
  have HB := hB.alloc (.cells #[.slice B bs.length d, .bool t] 44)
  simp only [isState, Bool.and_eq_true, decide_eq_true_eq] at h
  obtain ⟨hl, hc⟩ := h
  subst hl
  have HC := Lib.hid hc
  have hl' : ((bs.length : Int) != (bs.length : Int)) = false := by simp
  clear hc
  go_enter Try.func116, Try.ntmps116
  go_wp2_with fail
  refine (containsB_any B _ d bs t _ (HB.alloc _) rfl (by omega)).mono ?_
  rintro e w1 ⟨rfl, rfl⟩
  rw [HC.out]
  go_wp2
  have hres := Whole.fresh (w.alloc (.cells #[.slice B bs.length d, .bool t] 44)) 75 (placeCells [] false)
  have hblk := Whole.fresh ((w.alloc (.cells #[.slice B bs.length d, .bool t] 44)).alloc (.cells (placeCells [] false) 75)) 75 (placeCells [] t)
  simp only [World.size_alloc] at hblk hres
  have hfar := (HB.alloc (.cells (placeCells [] false) 75)).alloc (.cells (placeCells [] t) 75)
  have hb2 := below2 w (.cells #[.slice B bs.length d, .bool t] 44) (.cells (placeCells [] false) 75)
  have hb3 := below1 ((w.alloc (.cells #[.slice B bs.length d, .bool t] 44)).alloc (.cells (placeCells [] false) 75)) (.cells (placeCells [] t) 75)
  simp only [World.size_alloc] at hb3
  have hsrc : 0 < (bits bs).length → (some ⟨w.heap.size + 1 + 1, 0, none⟩ : Option Addr) = some ⟨w.heap.size + 1 + 1, 0, none⟩ ∧ ∃ ad : Addr, B = some ad ∧ ∀ j v, (bits bs)[j]? = some v → (((w.alloc (.cells #[.slice B bs.length d, .bool t] 44)).alloc (.cells (placeCells [] false) 75)).alloc (.cells (placeCells [] t) 75)).cell? (ad.add j) = some v := by
    intro h0
    refine ⟨rfl, ?_⟩
    rcases hfar with h | ⟨b, o, hA, hb, hc⟩
    · rw [h] at h0; simp at h0
    · exact ⟨_, hA, fun j v hv => by rw [show (⟨b, o, none⟩ : Addr).add j = ⟨b, o + j, none⟩ from by unfold Addr.add; split <;> simp_all]; exact hc j v hv⟩
  have HSRC := Lib.hid hsrc
  have hbl : (bits bs).length = Nat.min bs.length 8 := by rw [bits_len]; exact (Nat.min_eq_left hn).symm
  have HBL := Lib.hid hbl
  have hone : ∀ v ∈ bits bs, v.oneCell' = true := by
    intro v hv
    simp only [bits, List.mem_map] at hv
    obtain ⟨x, -, rfl⟩ := hv
    rfl
  have HONE := Lib.hid hone
  have hfit : 0 + (bits bs).length ≤ (placeCells [] t).toList.length := by rw [bits_len]; show 0 + bs.length ≤ 9; omega
  have HFIT := Lib.hid hfit
  clear hsrc hbl hone hfit hfar HB
  go_region_law (refine step_copy_splice rfl (.tmp 26) (.tmp 28) 38 38 rfl 4 Try.underlying38 size_bool (some ⟨w.heap.size + 1 + 1, 0, none⟩) B 8 8 bs.length d (by simp [Act.eval]) (by simp [Act.eval]) (w.heap.size + 1 + 1) 0 (placeCells [] t).toList 75 (by exact hblk.drew) (bits bs) HBL.out (by exact HSRC.out) HFIT.out HONE.out (w.heap.size + 1 + 1) _ (by exact hb3.drew) (Nat.le_refl _) ?_; intro w' hw' hb')
  have hq : Whole w' (w.heap.size + 1 + 1) 75 (placeCells bs t) := by
    have h := hw'.out
    rw [splice_place bs t hn] at h
    exact h
  have hr := hres.below' hb' (by omega)
  obtain ⟨a0, a1, a2, a3, a4, a5, a6, a7, a8⟩ := place_cells hq
  obtain ⟨r0, r1, r2, r3, r4, r5, r6, r7, r8⟩ := place_cells hr
  obtain ⟨f0, f1, f2, f3, f4, f5, f6, f7, f8⟩ := place_open hr
  have hlt1 := hr.lt
  clear hw' hblk hres hb3 HSRC HBL HONE HFIT hq
  go_wp2
  have hbw : Below w.heap.size w w' := below_then hb2 (by simpa using hb') (by simp; omega)
  refine bodyPost_ret (v := .tuple #[.agg (placeCells bs t), .bool true]) (by simp [results, Try.results116, go_sem, r0, r1, r2, r3, r4, r5, r6, r7, r8, placeCells]) rfl ⟨rfl, ?_⟩
  exact set_place hbw (by omega)
end Go.Proofs.Ytlpeimlbpiofkaa

namespace Go.Proofs.Ytlpeimlbpiofkaa
open Go.RowKit

theorem isParty_le {xs : List Int} {s : Int} (h : isParty xs s = true) : xs.length ≤ 8 := by
  simp only [isParty, Bool.and_eq_true] at h
  have := (within_iff.1 h.1).2
  omega

end Go.Proofs.Ytlpeimlbpiofkaa

namespace Go.Proofs.Ytlpeimlbpiofkaa
open Go.RowKit

/-- Place j of a list is a person behind the one before. -/
def Step (l : List Int) (hi : Int) (j : Nat) : Prop := 0 ≤ l.getD j 0 ∧ l.getD j 0 ≤ hi ∧ (j = 0 ∨ l.getD (j - 1) 0 < l.getD j 0)
def StepsTo (l : List Int) (hi : Int) (k : Nat) : Prop := ∀ j, j < k → Step l hi j
/-- A strictly rising list of numbers from 0 to hi. -/
noncomputable def rising (l : List Int) (hi : Int) : Bool := by
  classical
  exact decide (StepsTo l hi l.length)
theorem rising_no {l : List Int} {hi : Int} {k : Nat} (hk : k < l.length) (h : ¬ Step l hi k) : rising l hi = false := by
  classical
  simp only [rising, decide_eq_false_iff_not]
  exact fun hs => h (hs k hk)
theorem rising_yes {l : List Int} {hi : Int} {k : Nat} (h : StepsTo l hi k) (hk : l.length ≤ k) : rising l hi = true := by
  classical
  simp only [rising, decide_eq_true_eq]
  exact fun j hj => h j (by omega)
theorem rising_steps {l : List Int} {hi : Int} (h : rising l hi = true) : StepsTo l hi l.length := by
  classical
  simpa only [rising, decide_eq_true_eq] using h
theorem StepsTo.start (l : List Int) (hi : Int) : StepsTo l hi 0 := fun _ h => absurd h (by omega)
theorem StepsTo.next {l : List Int} {hi : Int} {k : Nat} (h : StepsTo l hi k) (hs : Step l hi k) : StepsTo l hi (k + 1) := fun j hj =>
  (Nat.lt_succ_iff_lt_or_eq.1 hj).elim (h j) (fun e => e ▸ hs)
theorem getD_at (l : List Int) {k : Nat} (hk : k < l.length) : l.getD k 0 = l[k] := by simp [hk]

set_option maxHeartbeats 800000 in
theorem l1Rising_any (A : Option Addr) (n c : Nat) (l : List Int) (hi : Int) (w : World) (hA : Holds w A (nums l)) (hx : l.length = n) (hn : n ≤ 9223372036854775807) :
    Calls Try.prog 156 #[.slice A n c, .int .i64 0, .int .i64 hi] w fun e w' => e = .returned (.bool (rising l hi)) ∧ w = w' := by
  subst hx
  go_enter Try.func156, Try.ntmps156
  go_wp2
  go_loop [11] (fun i => ∃ k : Nat, k ≤ l.length ∧ i = .int .i64 k ∧ StepsTo l hi k) (fun i => l.length - (intOf i).toNat)
  case atStart => exact ⟨0, Nat.zero_le _, rfl, StepsTo.start _ _⟩
  case round =>
    obtain ⟨k, hk, rfl, hs⟩ := hrel
    by_cases hlt : k < l.length
    · obtain ⟨b, o, rfl, hb, hc⟩ := hA.look (k := k) (by simpa [nums] using hlt)
      simp only [nums, List.getElem_map] at hc
      have hg := getD_at l hlt
      cases hw : within l[k] 0 hi
      · have HN := Lib.hid (rising_no (hi := hi) hlt (fun h => by
          have h1 := h.1; have h2 := h.2.1
          rw [hg] at h1 h2
          rw [within_yes h1 h2] at hw
          cases hw))
        have HW := Lib.hid hw
        clear hw hg
        go_wp2_with (go_at_call 107; refine (l1In_any _ _ _ _).mono ?_; rintro e w' ⟨rfl, rfl⟩; rw [HW.out])
        go_ret
        exact ⟨ret_of (by rw [HN.out]; rfl), rfl⟩
      · have hin := within_iff.1 hw
        have HW := Lib.hid hw
        clear hw
        by_cases h0 : k = 0
        · subst h0
          simp only [Nat.add_zero] at hc
          have hst := Lib.hid (hs.next (k := 0) ⟨by rw [hg]; exact hin.1, by rw [hg]; exact hin.2, .inl rfl⟩)
          clear hg hin
          go_wp2_with (go_at_call 107; refine (l1In_any _ _ _ _).mono ?_; rintro e w' ⟨rfl, rfl⟩; rw [HW.out])
          go_round
          case rel => exact ⟨1, by omega, by go_num, hst.out⟩
          case measure => simp [intOf]; omega
        · have hk1 : k - 1 < l.length := by omega
          obtain ⟨b', o', hA', hb', hc'⟩ := hA.look (k := k - 1) (by simpa [nums] using hk1)
          simp only [Option.some.injEq, Addr.mk.injEq] at hA'
          obtain ⟨rfl, rfl, -⟩ := hA'
          simp only [nums, List.getElem_map] at hc'
          have hg' := getD_at l hk1
          have hkp : (0 : Int) < k := by omega
          have htn : ((k : Int) - 1).toNat = k - 1 := by omega
          by_cases hle : l[k] ≤ l[k - 1]
          · have HN := Lib.hid (rising_no (hi := hi) hlt (fun h => by
              have h1 := h.2.2
              rw [hg, hg'] at h1
              omega))
            clear hg hg' hin
            go_wp2_with (go_at_call 107; refine (l1In_any _ _ _ _).mono ?_; rintro e w' ⟨rfl, rfl⟩; rw [HW.out])
            go_ret
            exact ⟨ret_of (by rw [HN.out]; rfl), rfl⟩
          · have hst := Lib.hid (hs.next (k := k) ⟨by rw [hg]; exact hin.1, by rw [hg]; exact hin.2, .inr (by rw [hg, hg']; omega)⟩)
            clear hg hg' hin
            go_wp2_with (go_at_call 107; refine (l1In_any _ _ _ _).mono ?_; rintro e w' ⟨rfl, rfl⟩; rw [HW.out])
            go_round
            case rel => exact ⟨k + 1, by omega, by go_num, hst.out⟩
            case measure => simp [intOf]; omega
    · have HN := Lib.hid (rising_yes hs (by omega))
      go_wp2
      go_ret
      exact ⟨ret_of (by rw [HN.out]; rfl), rfl⟩

theorem l1Most_any (a b : Int) (w : World) : Calls Try.prog 84 #[.int .i64 a, .int .i64 b] w fun e w' => e = .returned (.int .i64 (max a b)) ∧ w = w' := by
  by_cases h : b < a
  · have HM := Lib.hid (show max a b = a by omega)
    go_enter Try.func84, Try.ntmps84
    go_wp2
    go_ret
    exact ⟨ret_of (by rw [HM.out]; rfl), rfl⟩
  · have HM := Lib.hid (show max a b = b by omega)
    go_enter Try.func84, Try.ntmps84
    go_wp2
    go_ret
    exact ⟨ret_of (by rw [HM.out]; rfl), rfl⟩

/-- A trip of a party, by the list alone: 1..seats people, strictly rising. -/
noncomputable def isTrip (n : Nat) (s : Int) (l : List Int) : Bool := within l.length 1 s && rising l (n - 1)

/-- The slowest time among the people of a list, as the model finds it. -/
def slowOf (xs l : List Int) : Int := (l.map fun k => xs.getD k.toNat 0).foldl max 0
theorem slowOf_next {xs l : List Int} {k : Nat} (hk : k < l.length) : slowOf xs (l.take (k + 1)) = max (slowOf xs (l.take k)) (xs.getD (l[k]).toNat 0) := by
  rw [slowOf, slowOf, List.take_succ_eq_append_getElem hk, List.map_append, List.foldl_append]
  rfl

set_option maxHeartbeats 800000 in
theorem paTime_any (A B : Option Addr) (n c m d : Nat) (xs l : List Int) (s : Int) (w : World) (hA : Holds w A (nums xs)) (hx : xs.length = n) (hB : Holds w B (nums l)) (hy : l.length = m) (hm : m ≤ 9223372036854775807) (hn : n ≤ 9223372036854775807) (hl : StepsTo l (n - 1) l.length) :
    Calls Try.prog 114 #[.agg #[.slice A n c, .int .i64 s], .slice B m d] w fun e w' => e = .returned (.int .i64 (slowOf xs l)) ∧ Below w.heap.size w w' := by
  have hA2 := hA.alloc (.cells #[.slice A n c, .int .i64 s] 28)
  have hB2 := hB.alloc (.cells #[.slice A n c, .int .i64 s] 28)
  have HX := Lib.hid hx
  clear hx
  subst hy
  go_enter Try.func114, Try.ntmps114
  go_wp2
  go_loop [5, 10] (fun v i => ∃ k : Nat, k ≤ l.length ∧ i = .int .i64 k ∧ v = .int .i64 (slowOf xs (l.take k))) (fun _ i => l.length - (intOf i).toNat)
  case atStart => exact ⟨0, Nat.zero_le _, rfl, rfl⟩
  case round =>
    obtain ⟨k, hk, rfl, rfl⟩ := hrel
    by_cases hlt : k < l.length
    · obtain ⟨b, o, rfl, hb, hc⟩ := hB2.look (k := k) (by simpa [nums] using hlt)
      simp only [nums, List.getElem_map] at hc
      have hst := hl k hlt
      have hlo := hst.1
      have hhi := hst.2.1
      rw [getD_at l hlt] at hlo hhi
      have hix : (l[k]).toNat < xs.length := by have := HX.out; omega
      obtain ⟨b', o', rfl, hb', hc'⟩ := hA2.look (k := (l[k]).toNat) (by simpa [nums] using hix)
      simp only [nums, List.getElem_map] at hc'
      have hnx := slowOf_next (xs := xs) hlt
      rw [List.getD_eq_getElem?_getD, List.getElem?_eq_getElem hix] at hnx
      have HN := Lib.hid hnx
      have hup : l[k] < n := by omega
      clear hnx hst hhi
      go_wp2_with (go_at_call 84; refine (l1Most_any _ _ _).mono ?_; rintro e w' ⟨rfl, rfl⟩)
      go_round
      case rel => exact ⟨k + 1, by omega, by go_num, by rw [HN.out]; rfl⟩
      case measure => simp [intOf]; omega
    · have hkn : k = l.length := by omega
      subst hkn
      go_wp2
      go_ret
      exact ⟨ret_of (by simp), below1 w _⟩
end Go.Proofs.Ytlpeimlbpiofkaa

namespace Go.Proofs.Ytlpeimlbpiofkaa
open Go.RowKit

/-- Is person i on the list? -/
def has (l : List Int) (i : Nat) : Bool := l.any (· == (i : Int))
/-- The cells of the crowd of a list. -/
def crowdCells (l : List Int) : Array Value := #[.bool (has l 0), .bool (has l 1), .bool (has l 2), .bool (has l 3), .bool (has l 4), .bool (has l 5), .bool (has l 6), .bool (has l 7)]
theorem crowd_at (l : List Int) {i : Nat} (h : i < 8) : (crowdCells l)[i]? = some (.bool (has l i)) := by
  match i, h with
  | 0, _ => rfl
  | 1, _ => rfl
  | 2, _ => rfl
  | 3, _ => rfl
  | 4, _ => rfl
  | 5, _ => rfl
  | 6, _ => rfl
  | 7, _ => rfl
theorem has_snoc (l : List Int) (x : Int) (i : Nat) : has (l ++ [x]) i = (has l i || x == (i : Int)) := by simp [has]
theorem crowd_set (l : List Int) {x : Int} (h0 : 0 ≤ x) (h8 : x < 8) : (crowdCells l).setIfInBounds x.toNat (.bool true) = crowdCells (l ++ [x]) := by
  have h : x = 0 ∨ x = 1 ∨ x = 2 ∨ x = 3 ∨ x = 4 ∨ x = 5 ∨ x = 6 ∨ x = 7 := by omega
  rcases h with rfl | rfl | rfl | rfl | rfl | rfl | rfl | rfl <;> simp [crowdCells, has_snoc]

/-- The person before place k, or -1 at the start. -/
def lastOf (l : List Int) (k : Nat) : Int := if k = 0 then -1 else l.getD (k - 1) 0
theorem lastOf_zero (l : List Int) : lastOf l 0 = -1 := rfl
theorem lastOf_next (l : List Int) {k : Nat} (hk : k < l.length) : lastOf l (k + 1) = l[k] := by simp [lastOf, hk]
theorem lastOf_ge {l : List Int} {hi : Int} {k : Nat} (h : StepsTo l hi k) : -1 ≤ lastOf l k := by
  by_cases h0 : k = 0
  · simp [lastOf, h0]
  · have := (h (k - 1) (by omega)).1
    rw [lastOf, if_neg h0]
    omega
theorem step_of {l : List Int} {hi : Int} {k : Nat} (h : StepsTo l hi k) (hk : k < l.length) (h1 : lastOf l k < l[k]) (h2 : l[k] ≤ hi) : Step l hi k := by
  have hg := lastOf_ge h
  refine ⟨by rw [getD_at l hk]; omega, by rw [getD_at l hk]; exact h2, ?_⟩
  by_cases h0 : k = 0
  · exact .inl h0
  · right
    rw [lastOf, if_neg h0] at h1
    rw [getD_at l hk]
    exact h1
theorem nostep_last {l : List Int} {hi : Int} {k : Nat} (hk : k < l.length) (h : l[k] ≤ lastOf l k) : ¬ Step l hi k := by
  rintro ⟨h1, -, h3⟩
  rw [getD_at l hk] at h1 h3
  by_cases h0 : k = 0
  · subst h0
    rw [lastOf_zero] at h
    omega
  · rw [lastOf, if_neg h0] at h
    rcases h3 with h3 | h3
    · exact h0 h3
    · omega
theorem nostep_hi {l : List Int} {hi : Int} {k : Nat} (hk : k < l.length) (h : hi < l[k]) : ¬ Step l hi k := by
  rintro ⟨-, h2, -⟩
  rw [getD_at l hk] at h2
  omega
theorem trip_len {n : Nat} {s : Int} {l : List Int} (h : (l.length : Int) < 1 ∨ s < l.length) : isTrip n s l = false := by simp [isTrip, within_no h]
theorem trip_no {n : Nat} {s : Int} {l : List Int} {k : Nat} (hk : k < l.length) (h : ¬ Step l (n - 1) k) : isTrip n s l = false := by simp [isTrip, rising_no hk h]
theorem trip_yes {n : Nat} {s : Int} {l : List Int} (h1 : 1 ≤ (l.length : Int)) (h2 : (l.length : Int) ≤ s) (h : StepsTo l (n - 1) l.length) : isTrip n s l = true := by
  simp [isTrip, within_yes h1 h2, rising_yes h (Nat.le_refl _)]

theorem crowd_cells {w : World} {g : Nat} {ty : TypeId} {l : List Int} (h : Whole w g ty (crowdCells l)) :
    w.cell? ⟨g, 0, none⟩ = some (.bool (has l 0)) ∧ w.cell? ⟨g, 1, none⟩ = some (.bool (has l 1)) ∧ w.cell? ⟨g, 2, none⟩ = some (.bool (has l 2)) ∧ w.cell? ⟨g, 3, none⟩ = some (.bool (has l 3)) ∧
    w.cell? ⟨g, 4, none⟩ = some (.bool (has l 4)) ∧ w.cell? ⟨g, 5, none⟩ = some (.bool (has l 5)) ∧ w.cell? ⟨g, 6, none⟩ = some (.bool (has l 6)) ∧ w.cell? ⟨g, 7, none⟩ = some (.bool (has l 7)) :=
  ⟨(h.cell 0).trans rfl, (h.cell 1).trans rfl, (h.cell 2).trans rfl, (h.cell 3).trans rfl, (h.cell 4).trans rfl, (h.cell 5).trans rfl, (h.cell 6).trans rfl, (h.cell 7).trans rfl⟩
theorem crowd_open {w : World} {g : Nat} {ty : TypeId} {cs : Array Value} (h : Whole w g ty cs) :
    w.frozen? ⟨g, 0, none⟩ = false ∧ w.frozen? ⟨g, 1, none⟩ = false ∧ w.frozen? ⟨g, 2, none⟩ = false ∧ w.frozen? ⟨g, 3, none⟩ = false ∧ w.frozen? ⟨g, 4, none⟩ = false ∧ w.frozen? ⟨g, 5, none⟩ = false ∧ w.frozen? ⟨g, 6, none⟩ = false ∧ w.frozen? ⟨g, 7, none⟩ = false :=
  ⟨h.open_ 0, h.open_ 1, h.open_ 2, h.open_ 3, h.open_ 4, h.open_ 5, h.open_ 6, h.open_ 7⟩
theorem set_crowd {w : World} {g B : Nat} {a : World} {v0 v1 v2 v3 v4 v5 v6 v7 : Value} (h : Below B a w) (hg : B ≤ g) :
    Below B a ((((((((w.setCell ⟨g, 0, none⟩ v0).setCell ⟨g, 1, none⟩ v1).setCell ⟨g, 2, none⟩ v2).setCell ⟨g, 3, none⟩ v3).setCell ⟨g, 4, none⟩ v4).setCell ⟨g, 5, none⟩ v5).setCell ⟨g, 6, none⟩ v6).setCell ⟨g, 7, none⟩ v7) :=
  below_set (below_set (below_set (below_set (below_set (below_set (below_set (below_set h hg) hg) hg) hg) hg) hg) hg) hg

/-- What crowdOf hands back. -/
def CrowdPost (n : Nat) (s : Int) (l : List Int) (w : World) (e : Ending) (w' : World) : Prop :=
  ((isTrip n s l = true ∧ e = .returned (.tuple #[.agg (crowdCells l), .bool true])) ∨ (isTrip n s l = false ∧ e = .returned (.tuple #[.agg (crowdCells []), .bool false]))) ∧ Below w.heap.size w w'

set_option maxHeartbeats 1600000 in
theorem crowdOf_any (B : Option Addr) (n m d : Nat) (l : List Int) (s : Int) (w : World) (hB : Holds w B (nums l)) (hy : l.length = m) (hm : m ≤ 9223372036854775807) (hn : n ≤ 8) :
    Calls Try.prog 153 #[.slice B m d, .int .i64 n, .int .i64 s] w (CrowdPost n s l w) := by
  subst hy
  by_cases h1 : l.length < 1
  · have HN := Lib.hid (trip_len (n := n) (s := s) (l := l) (.inl (by omega)))
    go_enter Try.func153, Try.ntmps153
    go_wp2
    go_returns
    exact ⟨.inr ⟨HN.out, rfl⟩, below2 w _ _⟩
  by_cases h2 : s < l.length
  · have HN := Lib.hid (trip_len (n := n) (s := s) (l := l) (.inr h2))
    go_enter Try.func153, Try.ntmps153
    go_wp2
    go_returns
    exact ⟨.inr ⟨HN.out, rfl⟩, below2 w _ _⟩
  go_enter Try.func153, Try.ntmps153
  go_wp2
  have hr := (Whole.fresh w 73 (crowdCells [])).alloc (.cells (crowdCells []) 73)
  have hc := Whole.fresh (w.alloc (.cells (crowdCells []) 73)) 73 (crowdCells [])
  rw [World.size_alloc] at hc
  have hb := below2 w (.cells (crowdCells []) 73) (.cells (crowdCells []) 73)
  go_loopw [9, 24] (fun v i wr => ∃ k : Nat, k ≤ l.length ∧ i = .int .i64 k ∧ v = .int .i64 (lastOf l k) ∧ StepsTo l (n - 1) k ∧ Whole wr w.heap.size 73 (crowdCells []) ∧ Whole wr (w.heap.size + 1) 73 (crowdCells (l.take k)) ∧ Below w.heap.size w wr) (fun _ i _ => l.length - (intOf i).toNat)
  case atStart => exact ⟨0, Nat.zero_le _, rfl, rfl, StepsTo.start _ _, hr, hc, hb⟩
  case round =>
    clear hr hc hb
    obtain ⟨k, hk, rfl, rfl, hs, hr, hc, hb⟩ := hrel
    by_cases hlt : k < l.length
    · obtain ⟨b, o, rfl, hbl, hcell⟩ := (hB.below hb).look (k := k) (by simpa [nums] using hlt)
      simp only [nums, List.getElem_map] at hcell
      by_cases h3 : l[k] ≤ lastOf l k
      · have HN := Lib.hid (trip_no (n := n) (s := s) hlt (nostep_last hlt h3))
        obtain ⟨r0, r1, r2, r3, r4, r5, r6, r7⟩ := crowd_cells hr
        obtain ⟨f0, f1, f2, f3, f4, f5, f6, f7⟩ := crowd_open hr
        go_wp2
        refine bodyPost_ret (v := .tuple #[.agg (crowdCells []), .bool false]) (by simp [results, Try.results153, go_sem, r0, r1, r2, r3, r4, r5, r6, r7, crowdCells, has]) rfl ⟨.inr ⟨HN.out, rfl⟩, ?_⟩
        exact set_crowd hb (Nat.le_refl _)
      by_cases h4 : (n : Int) ≤ l[k]
      · have HN := Lib.hid (trip_no (n := n) (s := s) hlt (nostep_hi hlt (by omega)))
        obtain ⟨r0, r1, r2, r3, r4, r5, r6, r7⟩ := crowd_cells hr
        obtain ⟨f0, f1, f2, f3, f4, f5, f6, f7⟩ := crowd_open hr
        go_wp2
        refine bodyPost_ret (v := .tuple #[.agg (crowdCells []), .bool false]) (by simp [results, Try.results153, go_sem, r0, r1, r2, r3, r4, r5, r6, r7, crowdCells, has]) rfl ⟨.inr ⟨HN.out, rfl⟩, ?_⟩
        exact set_crowd hb (Nat.le_refl _)
      · have hst := step_of hs hlt (by omega) (by omega)
        have HS := Lib.hid (hs.next hst)
        have h0 : 0 ≤ l[k] := by have := hst.1; rw [getD_at l hlt] at this; exact this
        have h8 : l[k] < 8 := by omega
        have hi8 : (l[k]).toNat < 8 := by omega
        have hcc := (hc.cell (l[k]).toNat).trans (crowd_at (l.take k) hi8)
        have hff := hc.open_ (l[k]).toNat
        have hset := hc.set_ (l[k]).toNat (.bool true)
        rw [crowd_set _ h0 h8, ← List.take_succ_eq_append_getElem hlt] at hset
        have HL := Lib.hid (lastOf_next l hlt)
        clear hst hs
        go_wp2
        go_roundw
        case rel => exact ⟨k + 1, by omega, by go_num, by rw [HL.out], HS.out, hr.off (by omega), hset, below_set hb (by omega)⟩
        case measure => simp [intOf]; omega
    · have hkn : k = l.length := by omega
      subst hkn
      have HN := Lib.hid (trip_yes (n := n) (s := s) (by omega) (by omega) hs)
      rw [List.take_length] at hc
      obtain ⟨r0, r1, r2, r3, r4, r5, r6, r7⟩ := crowd_cells hr
      obtain ⟨f0, f1, f2, f3, f4, f5, f6, f7⟩ := crowd_open hr
      obtain ⟨a0, a1, a2, a3, a4, a5, a6, a7⟩ := crowd_cells hc
      go_wp2
      refine bodyPost_ret (v := .tuple #[.agg (crowdCells l), .bool true]) (by simp [results, Try.results153, go_sem, r0, r1, r2, r3, r4, r5, r6, r7, crowdCells]) rfl ⟨.inl ⟨HN.out, rfl⟩, ?_⟩
      exact set_crowd hb (Nat.le_refl _)

/-- The slowest of the first k people who are on the list, as the program finds it. -/
def slowTo (xs l : List Int) : Nat → Int
  | 0 => 0
  | k + 1 => if has l k = true then max (slowTo xs l k) (xs.getD k 0) else slowTo xs l k
theorem slowTo_yes {xs l : List Int} {k : Nat} (h : has l k = true) : slowTo xs l (k + 1) = max (slowTo xs l k) (xs.getD k 0) := if_pos h
theorem slowTo_no {xs l : List Int} {k : Nat} (h : has l k = false) : slowTo xs l (k + 1) = slowTo xs l k := if_neg (by simp [h])
theorem slowTo_le (xs l : List Int) (k : Nat) (b : Int) : slowTo xs l k ≤ b ↔ 0 ≤ b ∧ ∀ i, i < k → has l i = true → xs.getD i 0 ≤ b := by
  induction k with
  | zero => simp [slowTo]
  | succ k ih =>
    cases h : has l k
    · rw [slowTo_no h, ih]
      refine ⟨fun hh => ⟨hh.1, fun i hi hp => ?_⟩, fun hh => ⟨hh.1, fun i hi => hh.2 i (by omega)⟩⟩
      rcases Nat.lt_succ_iff_lt_or_eq.1 hi with hl | rfl
      · exact hh.2 i hl hp
      · rw [h] at hp; cases hp
    · rw [slowTo_yes h]
      constructor
      · intro hh
        have h1 := ih.1 (show slowTo xs l k ≤ b by omega)
        refine ⟨h1.1, fun i hi hp => ?_⟩
        rcases Nat.lt_succ_iff_lt_or_eq.1 hi with hl | rfl
        · exact h1.2 i hl hp
        · omega
      · intro hh
        have h1 := ih.2 ⟨hh.1, fun i hi => hh.2 i (by omega)⟩
        have h2 := hh.2 k (by omega) h
        omega
theorem slowOf_le (xs l : List Int) (b : Int) : slowOf xs l ≤ b ↔ 0 ≤ b ∧ ∀ x ∈ l, xs.getD x.toNat 0 ≤ b := by
  rw [slowOf, foldl_le]
  simp
theorem mem_steps {l : List Int} {hi x : Int} (h : StepsTo l hi l.length) (hx : x ∈ l) : 0 ≤ x ∧ x ≤ hi := by
  obtain ⟨k, hk, rfl⟩ := List.getElem_of_mem hx
  have hs := h k hk
  exact ⟨by have := hs.1; rw [getD_at l hk] at this; exact this, by have := hs.2.1; rw [getD_at l hk] at this; exact this⟩
theorem has_iff {l : List Int} {i : Nat} : has l i = true ↔ (i : Int) ∈ l := by
  simp only [has, List.any_eq_true, beq_iff_eq]
  exact ⟨fun ⟨x, hx, he⟩ => he ▸ hx, fun h => ⟨_, h, rfl⟩⟩
theorem slow_same {xs l : List Int} {n : Nat} (hs : StepsTo l (n - 1) l.length) : slowTo xs l n = slowOf xs l := by
  apply Int.le_antisymm
  · rw [slowTo_le]
    have h := (slowOf_le xs l (slowOf xs l)).1 (Int.le_refl _)
    exact ⟨h.1, fun i _ hp => by have := h.2 _ (has_iff.1 hp); simpa using this⟩
  · rw [slowOf_le]
    have h := (slowTo_le xs l n (slowTo xs l n)).1 (Int.le_refl _)
    refine ⟨h.1, fun x hx => ?_⟩
    have hm := mem_steps hs hx
    obtain ⟨i, rfl⟩ := Int.eq_ofNat_of_zero_le hm.1
    exact h.2 i (by omega) (has_iff.2 hx)

set_option maxHeartbeats 800000 in
theorem slowest_any (A : Option Addr) (n c : Nat) (xs l : List Int) (w : World) (hA : Holds w A (nums xs)) (hx : xs.length = n) (hn : n ≤ 8) :
    Calls Try.prog 144 #[.agg (crowdCells l), .slice A n c] w fun e w' => e = .returned (.int .i64 (slowTo xs l n)) ∧ Below w.heap.size w w' := by
  subst hx
  have hA2 := hA.alloc (.cells (crowdCells l) 73)
  have hc := Whole.fresh w 73 (crowdCells l)
  go_enter Try.func144, Try.ntmps144
  go_wp2
  go_loop [5, 10] (fun v i => ∃ k : Nat, k ≤ xs.length ∧ i = .int .i64 k ∧ v = .int .i64 (slowTo xs l k)) (fun _ i => xs.length - (intOf i).toNat)
  case atStart => exact ⟨0, Nat.zero_le _, rfl, rfl⟩
  case round =>
    obtain ⟨k, hk, rfl, rfl⟩ := hrel
    by_cases hlt : k < xs.length
    · obtain ⟨b, o, rfl, hb, hcell⟩ := hA2.look (k := k) (by simpa [nums] using hlt)
      simp only [nums, List.getElem_map] at hcell
      have hin := (hc.cell k).trans (crowd_at l (by omega))
      have hk8 : (k : Int) < 8 := by omega
      cases hp : has l k
      · have HS := Lib.hid (slowTo_no (xs := xs) hp)
        rw [hp] at hin
        clear hp
        go_wp2
        go_round
        case rel => exact ⟨k + 1, by omega, by go_num, by rw [HS.out]⟩
        case measure => simp [intOf]; omega
      · have hy := slowTo_yes (xs := xs) hp
        rw [getD_at xs hlt] at hy
        have HS := Lib.hid hy
        rw [hp] at hin
        clear hp hy
        go_wp2
        go_round
        case rel => exact ⟨k + 1, by omega, by go_num, by first | (rw [HS.out]; done) | (rw [HS.out]; exact congrArg _ (by split <;> omega))⟩
        case measure => simp [intOf]; omega
    · have hkn : k = xs.length := by omega
      subst hkn
      go_wp2
      go_ret
      exact ⟨rfl, below1 w _⟩
end Go.Proofs.Ytlpeimlbpiofkaa

namespace Go.Proofs.Ytlpeimlbpiofkaa
open Go.RowKit

/-- Two lists of one reading are the same. -/
theorem eqIntS_yes (A B : Option Addr) (n c d : Nat) (xs : List Int) (w : World) (hA : Holds w A (nums xs)) (hB : Holds w B (nums xs)) (hx : xs.length = n) (hn : n ≤ 9223372036854775807) :
    Calls Try.prog 56 #[.slice A n c, .slice B n d] w fun e w' => e = .returned (.bool true) ∧ Below w.heap.size w w' :=
  (eqIntS_any A B n n c d xs xs w hA hB hx hx hn hn).mono fun _ _ ⟨he, k, hw⟩ => ⟨by rw [he, sameInts_yes rfl], by rw [hw]; exact below_draws (Below.refl _ _) k⟩

/-- TripTime's number: 0 where the call fails. -/
noncomputable def tripTime (xs : List Int) (n : Nat) (s : Int) (l : List Int) : Int := if isParty xs s && isTrip n s l then slowOf xs l else 0
theorem tripTime_yes {xs l : List Int} {n : Nat} {s : Int} (h1 : isParty xs s = true) (h2 : isTrip n s l = true) : tripTime xs n s l = slowOf xs l := by simp [tripTime, h1, h2]
theorem tripTime_no1 {xs l : List Int} {n : Nat} {s : Int} (h1 : isParty xs s = false) : tripTime xs n s l = 0 := by simp [tripTime, h1]
theorem tripTime_no2 {xs l : List Int} {n : Nat} {s : Int} (h2 : isTrip n s l = false) : tripTime xs n s l = 0 := by simp [tripTime, h2]

theorem trip_steps {n : Nat} {s : Int} {l : List Int} (h : isTrip n s l = true) : StepsTo l (n - 1) l.length := by
  simp only [isTrip, Bool.and_eq_true] at h
  exact rising_steps h.2

end Go.Proofs.Ytlpeimlbpiofkaa

namespace Go.Proofs.Ytlpeimlbpiofkaa
open Go.RowKit

/-- All people of a list stand where t is. -/
def allAt (bs : List Bool) (t : Bool) (l : List Int) : Bool := l.all fun k => bs.getD k.toNat false == t
theorem allAt_no {bs : List Bool} {t : Bool} {l : List Int} {k : Nat} (hk : k < l.length) (h : bs.getD (l[k]).toNat false ≠ t) : allAt bs t l = false := by
  rw [allAt, List.all_eq_false]
  exact ⟨l[k], List.getElem_mem hk, by simpa using h⟩
theorem allAt_yes {bs : List Bool} {t : Bool} {l : List Int} (h : ∀ j (hj : j < l.length), bs.getD (l[j]).toNat false = t) : allAt bs t l = true := by
  rw [allAt, List.all_eq_true]
  intro x hx
  obtain ⟨j, hj, rfl⟩ := List.getElem_of_mem hx
  simpa using h j hj
/-- Can the people of a list cross? -/
noncomputable def canGo (n : Nat) (s : Int) (bs : List Bool) (t : Bool) (l : List Int) : Bool := isTrip n s l && allAt bs t l
def AtTo (bs : List Bool) (t : Bool) (l : List Int) (k : Nat) : Prop := ∀ j (h : j < l.length), j < k → bs.getD (l[j]).toNat false = t

set_option maxHeartbeats 800000 in
theorem paAsked_any (A B : Option Addr) (n c m d : Nat) (xs : List Int) (bs : List Bool) (s : Int) (t : Bool) (w : World) (hA : Holds w A (nums xs)) (hB : Holds w B (bits bs)) (hx : xs.length = n) (hy : bs.length = m) (hn : n ≤ 9223372036854775807) (hm : m ≤ 9223372036854775807) :
    Calls Try.prog 74 #[.agg #[.slice A n c, .int .i64 s], .agg #[.slice B m d, .bool t]] w fun e w' => e = .returned (.bool (isParty xs s && isState n bs t)) ∧ Below w.heap.size w w' := by
  have HX := Lib.hid hx
  have HY := Lib.hid hy
  clear hx hy
  have hA2 := (hA.alloc (.cells #[.slice A n c, .int .i64 s] 28)).alloc (.cells #[.slice B m d, .bool t] 44)
  have hB2 := (hB.alloc (.cells #[.slice A n c, .int .i64 s] 28)).alloc (.cells #[.slice B m d, .bool t] 44)
  have h0 := (Whole.fresh w 28 #[.slice A n c, .int .i64 s]).alloc (.cells #[.slice B m d, .bool t] 44)
  have h1 := Whole.fresh (w.alloc (.cells #[.slice A n c, .int .i64 s] 28)) 44 #[.slice B m d, .bool t]
  rw [World.size_alloc] at h1
  cases hp : isParty xs s
  all_goals
    have HP := Lib.hid hp
    clear hp
    go_enter Try.func74, Try.ntmps74
    go_wp2_with fail
    refine (paGood_any A n c xs s _ hA2 HX.out hn).mono ?_
    rintro e w1 ⟨rfl, hb1⟩
    rw [HP.out]
    obtain ⟨c0, c1, -, -⟩ := (h0.below hb1).two
    obtain ⟨d0, d1, -, -⟩ := (h1.below hb1).two
    have hB3 := hB2.below hb1
    have hb1' := below_then (below2 w _ _) hb1 (by simp; omega)
    clear h0 h1 hb1 hA2 hB2
  · go_wp2
    go_ret
    exact ⟨rfl, hb1'⟩
  · go_wp2_with fail
    refine (paState_any A B n c m d bs s t _ hB3 HY.out hm).mono ?_
    rintro e w2 ⟨rfl, hb2⟩
    go_wp2
    go_ret
    exact ⟨rfl, below_then hb1' hb2 hb1'.size⟩

end Go.Proofs.Ytlpeimlbpiofkaa

namespace Go.Proofs.Ytlpeimlbpiofkaa
open Go.RowKit

/-- Block g alone may have turned. -/
structure Only (g : Nat) (w w' : World) : Prop where
  os : w'.os = w.os
  tape : w'.tape = w.tape
  output : w'.output = w.output
  size : w'.heap.size = w.heap.size
  block : ∀ k, k ≠ g → w'.heap[k]? = w.heap[k]?

theorem Only.below {g B : Nat} {a w w' : World} (h : Only g w w') (hb : Below B a w) (hg : B ≤ g) : Below B a w' :=
  hb.trans ⟨h.os, h.tape, h.output, by rw [h.size]; exact Nat.le_refl _, fun k hk => h.block k (by omega)⟩
theorem Only.whole {g k : Nat} {w w' : World} {t : TypeId} {cs : Array Value} (h : Only g w w') (hw : Whole w k t cs) (hne : k ≠ g) : Whole w' k t cs := (h.block k hne).trans hw

section
variable {P : Program}
theorem only_setRow (w : World) (g : Nat) (cs : Array Value) : Only g w (w.setRow g cs) :=
  ⟨rfl, rfl, rfl, size_setRow w g cs, fun k hk => by simp [World.setRow, Array.getElem?_modify, Ne.symm hk]⟩
theorem whole_setRow {w : World} {g : Nat} {t : TypeId} {old : Array Value} (cs : Array Value) (h : Whole w g t old) : Whole (w.setRow g cs) g t cs := by
  unfold Whole at h ⊢
  simp [World.setRow, Array.getElem?_modify, h]

theorem wpList_store_whole {ops : Array Oper} {rest : List Oper} {o : Oper} {a : Act} {w : World} {Q : Exit → Act → World → Prop} (hgd : o.guard = none) (ty : TypeId) (x y : Operand) (ho : o.op = .store ty x y)
    (g : Nat) (cells : Array Value) (hx : a.eval x = .pointer (some ⟨g, 0, none⟩)) (hy : a.eval y = .agg cells)
    (t : TypeId) (old : Array Value) (hg : Whole w g t old) (hi : (P.info? ty).map (·.size) = some cells.size)
    (hold : old.size = cells.size) (h1 : cells.all (·.oneCell') = true)
    (h : ∀ w', Whole w' g t cells → Only g w w' → wpList P ops Q rest (a.put o.dst undef) w') : wpList P ops Q (o :: rest) a w :=
  wpList_store_row hgd ty x y ho g cells hx hy t old hg hi hold h1 (h _ (whole_setRow cells hg) (only_setRow w g cells))
end
end Go.Proofs.Ytlpeimlbpiofkaa

namespace Go.Proofs.Ytlpeimlbpiofkaa
open Go.RowKit

theorem and_of {a b x y : Bool} (h : a = x) (k : b = y) : (a && b) = (x && y) := by rw [h, k]

/-- What partyPlace hands back. -/
def PlacePost (n : Nat) (xs : List Int) (s : Int) (bs : List Bool) (t : Bool) (w : World) (e : Ending) (w' : World) : Prop :=
  (((isParty xs s && isState n bs t) = true ∧ e = .returned (.tuple #[.agg (placeCells bs t), .bool true])) ∨ ((isParty xs s && isState n bs t) = false ∧ e = .returned (.tuple #[.agg (placeCells [] false), .bool false]))) ∧ Below w.heap.size w w'

set_option maxHeartbeats 1600000 in
theorem partyPlace_any (A B : Option Addr) (n c m d : Nat) (xs : List Int) (bs : List Bool) (s : Int) (t : Bool) (w : World) (hA : Holds w A (nums xs)) (hB : Holds w B (bits bs)) (hx : xs.length = n) (hy : bs.length = m) (hn : n ≤ 9223372036854775807) (hm : m ≤ 9223372036854775807) :
    Calls Try.prog 79 #[.agg #[.slice A n c, .int .i64 s], .agg #[.slice B m d, .bool t]] w (PlacePost n xs s bs t w) := by
  have HX := Lib.hid hx
  have HY := Lib.hid hy
  have hA2 := ((hA.alloc (.cells #[.slice A n c, .int .i64 s] 28)).alloc (.cells #[.slice B m d, .bool t] 44)).alloc (.cells (placeCells [] false) 75)
  have hB2 := ((hB.alloc (.cells #[.slice A n c, .int .i64 s] 28)).alloc (.cells #[.slice B m d, .bool t] 44)).alloc (.cells (placeCells [] false) 75)
  have h0 := ((Whole.fresh w 28 #[.slice A n c, .int .i64 s]).alloc (.cells #[.slice B m d, .bool t] 44)).alloc (.cells (placeCells [] false) 75)
  have h1 := (Whole.fresh (w.alloc (.cells #[.slice A n c, .int .i64 s] 28)) 44 #[.slice B m d, .bool t]).alloc (.cells (placeCells [] false) 75)
  have h2 := Whole.fresh ((w.alloc (.cells #[.slice A n c, .int .i64 s] 28)).alloc (.cells #[.slice B m d, .bool t] 44)) 75 (placeCells [] false)
  simp only [World.size_alloc] at h1 h2
  cases hp : isParty xs s
  · have HP : Hid ((isParty xs s && isState n bs t) = false) := by show _ = _; simp [hp]
    have HPP := Lib.hid hp
    clear hp hx hy
    go_enter Try.func79, Try.ntmps79
    go_wp2_with fail
    refine (isParty_any A n c xs s _ hA2 HX.out hn).mono ?_
    rintro e w1 ⟨rfl, hb1⟩
    rw [HPP.out]
    have ht := below_then (below3 w _ _ _) hb1 (by simp; omega)
    have hr := h2.below hb1
    obtain ⟨r0, r1, r2, r3, r4, r5, r6, r7, r8⟩ := place_cells hr
    obtain ⟨f0, f1, f2, f3, f4, f5, f6, f7, f8⟩ := place_open hr
    clear h0 h1 h2 hb1 hA2 hB2
    go_wp2
    refine bodyPost_ret (v := .tuple #[.agg (placeCells [] false), .bool false]) (by simp [results, Try.results79, go_sem, r0, r1, r2, r3, r4, r5, r6, r7, r8, placeCells]) rfl ⟨.inr ⟨HP.out, rfl⟩, ?_⟩
    exact set_place ht (by omega)
  · have HPP := Lib.hid hp
    have h8 : n ≤ 8 := by have := isParty_le hp; omega
    cases hst : isState n bs t
    all_goals
      have HST := Lib.hid hst
      have HP := Lib.hid (and_of hp hst)
      clear hp hx hy hst
      go_enter Try.func79, Try.ntmps79
      go_wp2_with fail
      refine (isParty_any A n c xs s _ hA2 HX.out hn).mono ?_
      rintro e w1 ⟨rfl, hb1⟩
      rw [HPP.out]
      have ht := below_then (below3 w _ _ _) hb1 (by simp; omega)
      have hr := h2.below hb1
      have hB3 := hB2.below hb1
      obtain ⟨c0, c1, -, -⟩ := (h0.below hb1).two
      obtain ⟨d0, d1, -, -⟩ := (h1.below hb1).two
      clear h0 h1 h2 hb1 hA2 hB2
      go_wp2_with fail
    · refine (placeOf_no B n m d bs t _ hB3 HY.out hm HST.out).mono ?_
      rintro e w2 ⟨rfl, hb⟩
      replace ht := below_then ht hb ht.size
      replace hr := hr.below hb
      obtain ⟨r0, r1, r2, r3, r4, r5, r6, r7, r8⟩ := place_cells hr
      obtain ⟨f0, f1, f2, f3, f4, f5, f6, f7, f8⟩ := place_open hr
      clear hb c0 c1 d0 d1
      unfold placeCells
      go_wp2
      refine bodyPost_ret (v := .tuple #[.agg (placeCells [] false), .bool false]) (by simp [results, Try.results79, go_sem, r0, r1, r2, r3, r4, r5, r6, r7, r8, placeCells]) rfl ⟨.inr ⟨HP.out, rfl⟩, ?_⟩
      exact set_place ht (by omega)
    · refine (placeOf_yes B n m d bs t _ hB3 HY.out h8 HST.out).mono ?_
      rintro e w2 ⟨rfl, hb⟩
      replace ht := below_then ht hb ht.size
      replace hr := hr.below hb
      obtain ⟨r0, r1, r2, r3, r4, r5, r6, r7, r8⟩ := place_cells hr
      obtain ⟨f0, f1, f2, f3, f4, f5, f6, f7, f8⟩ := place_open hr
      clear hb c0 c1 d0 d1
      unfold placeCells
      go_wp2
      refine bodyPost_ret (v := .tuple #[.agg (placeCells bs t), .bool true]) (by simp [results, Try.results79, go_sem, r0, r1, r2, r3, r4, r5, r6, r7, r8, placeCells]) rfl ⟨.inl ⟨HP.out, rfl⟩, ?_⟩
      exact set_place ht (by omega)

/-- The first k people: who is on the list stands where t is. -/
def HoldTo (bs : List Bool) (t : Bool) (l : List Int) (k : Nat) : Prop := ∀ i, i < k → has l i = true → bs.getD i false = t
theorem HoldTo.next {bs : List Bool} {t : Bool} {l : List Int} {k : Nat} (h : HoldTo bs t l k) (hk : has l k = true → bs.getD k false = t) : HoldTo bs t l (k + 1) := fun i hi =>
  (Nat.lt_succ_iff_lt_or_eq.1 hi).elim (h i) (fun e => e ▸ hk)
theorem place_at (bs : List Bool) (t : Bool) {i : Nat} (h : i < 8) : (placeCells bs t)[i]? = some (.bool (bs.getD i false)) := by
  match i, h with
  | 0, _ => rfl
  | 1, _ => rfl
  | 2, _ => rfl
  | 3, _ => rfl
  | 4, _ => rfl
  | 5, _ => rfl
  | 6, _ => rfl
  | 7, _ => rfl
theorem at_of_hold {bs : List Bool} {t : Bool} {l : List Int} {n : Nat} (hs : StepsTo l (n - 1) l.length) (hn : n ≤ 8) (h : HoldTo bs t l 8) : allAt bs t l = true :=
  allAt_yes fun j hj => by
    have hm := mem_steps hs (List.getElem_mem hj)
    exact h (l[j]).toNat (by omega) (has_iff.2 (by rw [Int.toNat_of_nonneg hm.1]; exact List.getElem_mem hj))
theorem at_not {bs : List Bool} {t : Bool} {l : List Int} {i : Nat} (h : has l i = true) (hne : bs.getD i false ≠ t) : allAt bs t l = false := by
  rw [allAt, List.all_eq_false]
  exact ⟨(i : Int), has_iff.1 h, by simpa using hne⟩

theorem index_crowd (l : List Int) {k : Nat} (h : k < 8) (w : World) : (Instr.index 71 (.agg #[.bool (has l 0), .bool (has l 1), .bool (has l 2), .bool (has l 3), .bool (has l 4), .bool (has l 5), .bool (has l 6), .bool (has l 7)]) (.int .i64 k)).run Try.prog w = .ok (.bool (has l k)) w :=
  match k, h with
  | 0, _ => by kernel_rfl
  | 1, _ => by kernel_rfl
  | 2, _ => by kernel_rfl
  | 3, _ => by kernel_rfl
  | 4, _ => by kernel_rfl
  | 5, _ => by kernel_rfl
  | 6, _ => by kernel_rfl
  | 7, _ => by kernel_rfl

set_option maxHeartbeats 1600000 in
theorem holds_any (n : Nat) (bs : List Bool) (l : List Int) (t : Bool) (w : World) (hs : StepsTo l (n - 1) l.length) (hn : n ≤ 8) :
    Calls Try.prog 115 #[.agg (placeCells bs t), .agg (crowdCells l)] w fun e w' => e = .returned (.bool (allAt bs t l)) ∧ Below w.heap.size w w' := by
  unfold crowdCells
  have h0 := (Whole.fresh w 75 (placeCells bs t)).alloc (.cells #[.bool (has l 0), .bool (has l 1), .bool (has l 2), .bool (has l 3), .bool (has l 4), .bool (has l 5), .bool (has l 6), .bool (has l 7)] 73)
  have hb := below2 w (.cells (placeCells bs t) 75) (.cells #[.bool (has l 0), .bool (has l 1), .bool (has l 2), .bool (has l 3), .bool (has l 4), .bool (has l 5), .bool (has l 6), .bool (has l 7)] 73)
  have ht8 := (h0.cell 8).trans (show (placeCells bs t)[8]? = some (.bool t) from rfl)
  go_enter Try.func115, Try.ntmps115
  go_wp2
  go_loopw [9] (fun i wr => ∃ k x : Nat, k ≤ 8 ∧ i = .int .i64 k ∧ wr = World.drewN ((w.alloc (.cells (placeCells bs t) 75)).alloc (.cells #[.bool (has l 0), .bool (has l 1), .bool (has l 2), .bool (has l 3), .bool (has l 4), .bool (has l 5), .bool (has l 6), .bool (has l 7)] 73)) x ∧ HoldTo bs t l k) (fun i _ => 8 - (intOf i).toNat)
  case atStart => exact ⟨0, 0, Nat.zero_le _, rfl, rfl, fun _ h => absurd h (by omega)⟩
  case round =>
    obtain ⟨k, x, hk, rfl, rfl, hat⟩ := hrel
    by_cases hlt : k < 8
    · have hix := index_crowd l hlt
      have hkc := (h0.cell k).trans (place_at bs t hlt)
      cases hp : has l k
      · rw [hp] at hix
        have HN := Lib.hid (hat.next (fun h => by rw [hp] at h; cases h))
        clear hp
        go_wp2
        go_quiet (fail)
        go_wp2
        go_roundw
        case rel => exact ⟨k + 1, x + _, by omega, by go_num, by first | rfl | exact World.drewN_drewN _ _ _, HN.out⟩
        case measure => simp [intOf]; omega
      · rw [hp] at hix
        by_cases he : bs.getD k false = t
        · have HN := Lib.hid (hat.next (fun _ => he))
          have hkk : (k : Int) < 8 := by omega
          rw [he] at hkc
          have hne2 : (!(t == t)) = false := by simp
          clear hp he
          go_wp2
          go_quiet (fail)
          go_wp2
          go_roundw
          case rel => exact ⟨k + 1, x + _, by omega, by go_num, by first | rfl | exact World.drewN_drewN _ _ _, HN.out⟩
          case measure => simp [intOf]; omega
        · have HN := Lib.hid (at_not hp he)
          have hbv : bs.getD k false = !t := by cases hh : bs.getD k false <;> cases t <;> simp_all
          rw [hbv] at hkc
          have hkk : (k : Int) < 8 := by omega
          have hne : (!((!t) == t)) = true := by cases t <;> rfl
          clear hp he hbv
          go_wp2
          go_quiet (fail)
          go_wp2
          go_ret
          exact ⟨ret_of (by rw [HN.out]; rfl), by first | exact below_draws (below_draws hb _) _ | exact below_draws hb _⟩
    · have hk8 : k = 8 := by omega
      subst hk8
      have HN := Lib.hid (at_of_hold hs hn hat)
      go_wp2
      go_ret
      exact ⟨ret_of (by rw [HN.out]; rfl), below_draws hb _⟩

theorem can_of {n : Nat} {s : Int} {bs : List Bool} {t : Bool} {l : List Int} {x y : Bool} (h : isTrip n s l = x) (k : allAt bs t l = y) : canGo n s bs t l = (x && y) := and_of h k
theorem size_crowd : (Try.prog.info? 73).map (·.size) = some 8 := by kernel_rfl

theorem crowd_one (l : List Int) : (crowdCells l).all (·.oneCell') = true := by simp [crowdCells, Value.oneCell']

/-- What tripOf hands back. -/
def TripPost (n : Nat) (s : Int) (bs : List Bool) (t : Bool) (l : List Int) (w : World) (e : Ending) (w' : World) : Prop :=
  ((canGo n s bs t l = true ∧ e = .returned (.tuple #[.agg (crowdCells l), .bool true])) ∨ (canGo n s bs t l = false ∧ e = .returned (.tuple #[.agg (crowdCells []), .bool false]))) ∧ Below w.heap.size w w'

end Go.Proofs.Ytlpeimlbpiofkaa

namespace Go.Proofs.Ytlpeimlbpiofkaa
open Go.RowKit

/-- A row of the call's own: it begins at the head of a block from lo on and before hi, and its first cells are xs. -/
def Fresh (w : World) (lo hi : Nat) (ty : TypeId) (A : Option Addr) (xs : List Value) : Prop :=
  xs = [] ∨ ∃ (g : Nat) (cs : Array Value), A = some ⟨g, 0, none⟩ ∧ lo ≤ g ∧ g < hi ∧ Whole w g ty cs ∧ xs.length ≤ cs.size ∧ cs.toList.take xs.length = xs
/-- Of what was there, only blocks from lo on and before hi may have turned. -/
structure Span (lo hi : Nat) (w w' : World) : Prop where
  os : w'.os = w.os
  tape : w'.tape = w.tape
  output : w'.output = w.output
  size : w.heap.size ≤ w'.heap.size
  block : ∀ k, k < w.heap.size → (k < lo ∨ hi ≤ k) → w'.heap[k]? = w.heap[k]?

section
variable {w w' : World} {lo hi lo' hi' B : Nat} {ty : TypeId} {A : Option Addr} {xs : List Value}
theorem Span.refl (lo hi : Nat) (w : World) : Span lo hi w w := ⟨rfl, rfl, rfl, Nat.le_refl _, fun _ _ _ => rfl⟩
theorem Span.of_below (h : Below w.heap.size w w') (lo hi : Nat) : Span lo hi w w' := ⟨h.os, h.tape, h.output, h.size, fun k hk _ => h.block k hk⟩
theorem Span.trans {a b c : World} (h : Span lo hi a b) (k : Span lo hi b c) : Span lo hi a c :=
  ⟨k.os.trans h.os, k.tape.trans h.tape, k.output.trans h.output, Nat.le_trans h.size k.size, fun i hi hne => (k.block i (Nat.lt_of_lt_of_le hi h.size) hne).trans (h.block i hi hne)⟩
theorem Span.below {a : World} (h : Span lo hi w w') (hb : Below B a w) (hB : B ≤ lo) (hs : B ≤ w.heap.size) : Below B a w' :=
  hb.trans ⟨h.os, h.tape, h.output, h.size, fun k hk => h.block k (by omega) (.inl (by omega))⟩
theorem Span.whole {g : Nat} {cs : Array Value} (h : Span lo hi w w') (hw : Whole w g ty cs) (hg : g < lo ∨ hi ≤ g) : Whole w' g ty cs := (h.block g hw.lt hg).trans hw
theorem Span.fresh (h : Span lo hi w w') (hf : Fresh w lo' hi' ty A xs) (hd : hi' ≤ lo ∨ hi ≤ lo') : Fresh w' lo' hi' ty A xs := by
  rcases hf with rfl | ⟨g, cs, hA, h1, h2, hw, h3, h4⟩
  · exact .inl rfl
  · exact .inr ⟨g, cs, hA, h1, h2, h.whole hw (by omega), h3, h4⟩
theorem Fresh.below (hf : Fresh w lo hi ty A xs) (h : Below w.heap.size w w') : Fresh w' lo hi ty A xs := by
  rcases hf with rfl | ⟨g, cs, hA, h1, h2, hw, h3, h4⟩
  · exact .inl rfl
  · exact .inr ⟨g, cs, hA, h1, h2, hw.below h, h3, h4⟩
theorem Fresh.alloc (hf : Fresh w lo hi ty A xs) (o : Obj) : Fresh (w.alloc o) lo hi ty A xs := hf.below (below1 w o)
theorem Fresh.drew (hf : Fresh w lo hi ty A xs) : Fresh w.drew lo hi ty A xs := hf
theorem Fresh.more (hf : Fresh w lo hi ty A xs) (h1 : lo' ≤ lo) (h2 : hi ≤ hi') : Fresh w lo' hi' ty A xs := by
  rcases hf with rfl | ⟨g, cs, hA, h3, h4, hw, h5, h6⟩
  · exact .inl rfl
  · exact .inr ⟨g, cs, hA, by omega, by omega, hw, h5, h6⟩
theorem Fresh.holds (hf : Fresh w lo hi ty A xs) : Holds w A xs := by
  rcases hf with rfl | ⟨g, cs, hA, -, -, hw, -, h4⟩
  · exact .inl rfl
  · refine .inr ⟨g, 0, hA, hw.lt, fun j u hu => ?_⟩
    have hj : j < xs.length := (List.getElem?_eq_some_iff.1 hu).1
    rw [Nat.zero_add, hw.cell j, ← hu]
    have := congrArg (fun l : List Value => l[j]?) h4
    simpa [List.getElem?_take, hj] using this
theorem Fresh.of_whole {g : Nat} (hw : Whole w g ty xs.toArray) (h1 : lo ≤ g) (h2 : g < hi) : Fresh w lo hi ty (some ⟨g, 0, none⟩) xs :=
  .inr ⟨g, _, rfl, h1, h2, hw, by simp, by simp⟩
theorem Fresh.of_own {n : Nat} {v : Value} (h : w.ownsRow lo ty 1 v n xs) (hs : w.heap.size ≤ hi) : ∃ (A : Option Addr) (c : Nat), v = .slice A n c ∧ Fresh w lo hi ty A xs := by
  obtain ⟨hl, h⟩ := h
  rcases h with ⟨hv, hn⟩ | ⟨g, cap, cur, hv, hg, hh, h1, h2, h3, h4⟩
  · subst hn
    exact ⟨none, 0, hv, .inl (List.eq_nil_of_length_eq_zero (by simpa using hl))⟩
  · have hw : Whole w g ty cur := hh
    refine ⟨_, cap, hv, .inr ⟨g, cur, rfl, hg, Nat.lt_of_lt_of_le hw.lt hs, hw, by omega, ?_⟩⟩
    rw [hl]
    exact h4
end

def marksI (k : Int) (n : Nat) : List Int := (List.range n).map fun (i : Nat) => k + (i : Int)
def marksB (k : Int) (n : Nat) : List Bool := (List.range n).map fun (i : Nat) => (k + (i : Int)) % 3 == 0
theorem marksI_len (k : Int) (n : Nat) : (marksI k n).length = n := by simp [marksI]
theorem marksB_len (k : Int) (n : Nat) : (marksB k n).length = n := by simp [marksB]

/-- The first k cells overwritten by the count from q on. -/
def marked (f : Nat → Value) (cs : Array Value) (k : Nat) : Array Value := ((List.range k).map f ++ cs.toList.drop k).toArray
theorem marked_zero (f : Nat → Value) (cs : Array Value) : marked f cs 0 = cs := by simp [marked]
theorem marked_at (f : Nat → Value) (cs : Array Value) {k : Nat} (h : k < cs.size) : ∃ u, (marked f cs k)[k]? = some u := by
  refine ⟨cs[k], ?_⟩
  simp only [marked, List.getElem?_toArray]
  rw [List.getElem?_append_right (by simp)]
  simp [h]
theorem marked_next (f : Nat → Value) (cs : Array Value) {k : Nat} (h : k < cs.size) : (marked f cs k).setIfInBounds k (f k) = marked f cs (k + 1) := by
  apply Array.ext_getElem?
  intro j
  rw [Array.getElem?_setIfInBounds]
  simp only [marked, List.getElem?_toArray, List.size_toArray, List.length_append, List.length_map, List.length_range, List.length_drop, Array.length_toList]
  by_cases hj : k = j
  · subst hj
    rw [if_pos rfl, if_pos (by omega), List.getElem?_append_left (by simp)]
    simp
  · rw [if_neg hj]
    by_cases hlt : j < k
    · rw [List.getElem?_append_left (by simpa using hlt), List.getElem?_append_left (by simp; omega)]
      simp [hlt, Nat.lt_succ_of_lt hlt]
    · rw [List.getElem?_append_right (by simp; omega), List.getElem?_append_right (by simp; omega)]
      simp only [List.length_map, List.length_range, List.getElem?_drop]
      congr 1
      omega
theorem marked_take (f : Nat → Value) (cs : Array Value) (n : Nat) : (marked f cs n).toList.take n = (List.range n).map f := by
  simp [marked]

set_option maxHeartbeats 800000 in
theorem markBoolS_any (A : Option Addr) (n c lo hi : Nat) (xs : List Value) (q : Int) (w : World) (hf : Fresh w lo hi 4 A xs) (hx : xs.length = n) (h0 : 0 ≤ q) (h1 : q ≤ 4611686018427387904) (hn : n ≤ 1048576) :
    Calls Try.prog 90 #[.slice A n c, .int .i64 q] w fun e w' => e = .returned (.int .i64 (q + n)) ∧ Span lo hi w w' ∧ Fresh w' lo hi 4 A (bits (marksB q n)) := by
  subst hx
  rcases hf with rfl | ⟨g, cs, rfl, hlo, hhi, hw, hle, htk⟩
  · go_enter Try.func90, Try.ntmps90
    go_wp2
    refine wp_loop_rounds 1 ?_
    rw [rounds_succ]
    go_wp2
    go_ret
    exact ⟨ret_of (by simp), Span.refl _ _ _, .inl (by simp [marksB, bits])⟩
  · have HT := Lib.hid htk
    clear htk
    have hm0 : Whole w g 4 (marked (fun i : Nat => .bool ((q + (i : Int)) % 3 == 0)) cs 0) := by rw [marked_zero]; exact hw
    have hgl := hw.lt
    go_enter Try.func90, Try.ntmps90
    go_wp2
    go_loopw [1, 5] (fun v i wr => ∃ k : Nat, k ≤ xs.length ∧ i = .int .i64 k ∧ v = .int .i64 (q + k) ∧ Whole wr g 4 (marked (fun i : Nat => .bool ((q + (i : Int)) % 3 == 0)) cs k) ∧ Span lo hi w wr) (fun _ i _ => xs.length - (intOf i).toNat)
    case atStart => exact ⟨0, Nat.zero_le _, rfl, by simp, hm0, Span.refl _ _ _⟩
    case round =>
      obtain ⟨k, hk, rfl, rfl, hm, hs⟩ := hrel
      clear hm0 hw
      by_cases hlt : k < xs.length
      · obtain ⟨u, hu⟩ := marked_at (fun i : Nat => .bool ((q + (i : Int)) % 3 == 0)) cs (show k < cs.size by omega)
        have hcell := (hm.cell k).trans hu
        have hfr := hm.open_ k
        have hset := hm.set_ k (.bool ((q + k) % 3 == 0))
        rw [marked_next (fun i : Nat => .bool ((q + (i : Int)) % 3 == 0)) cs (show k < cs.size by omega)] at hset
        have hs' : Span lo hi w (wr.setCell ⟨g, k, none⟩ (.bool ((q + k) % 3 == 0))) :=
          hs.trans ⟨rfl, rfl, rfl, by simp [World.setCell], fun j _ hj => Below.heap_setCell _ _ _ _ (by show j ≠ g; omega)⟩
        clear hm hu hs
        have hq0 : (0 : Int) ≤ q + k := by omega
        go_wp2
        go_roundw
        case rel => exact ⟨k + 1, by omega, by go_num, by first | exact congrArg _ (by omega) | (simp; omega), hset, hs'⟩
        case measure => simp [intOf]; omega
      · have hkn : k = xs.length := by omega
        subst hkn
        go_wp2
        go_ret
        refine ⟨rfl, hs, .inr ⟨g, _, rfl, hlo, hhi, hm, ?_, ?_⟩⟩
        · simp [bits_len, marksB_len, marked]
        · rw [bits_len, marksB_len, marked_take _ _ _]
          simp [bits, marksB]
set_option maxHeartbeats 800000 in
theorem markIntS_any (A : Option Addr) (n c lo hi : Nat) (xs : List Value) (q : Int) (w : World) (hf : Fresh w lo hi 3 A xs) (hx : xs.length = n) (h0 : 0 ≤ q) (h1 : q ≤ 4611686018427387904) (hn : n ≤ 1048576) :
    Calls Try.prog 57 #[.slice A n c, .int .i64 q] w fun e w' => e = .returned (.int .i64 (q + n)) ∧ Span lo hi w w' ∧ Fresh w' lo hi 3 A (nums (marksI q n)) := by
  subst hx
  rcases hf with rfl | ⟨g, cs, rfl, hlo, hhi, hw, hle, htk⟩
  · go_enter Try.func57, Try.ntmps57
    go_wp2
    refine wp_loop_rounds 1 ?_
    rw [rounds_succ]
    go_wp2
    go_ret
    exact ⟨ret_of (by simp), Span.refl _ _ _, .inl (by simp [marksI, nums])⟩
  · have HT := Lib.hid htk
    clear htk
    have hm0 : Whole w g 3 (marked (fun i : Nat => .int .i64 (q + (i : Int))) cs 0) := by rw [marked_zero]; exact hw
    have hgl := hw.lt
    go_enter Try.func57, Try.ntmps57
    go_wp2
    go_loopw [1, 5] (fun v i wr => ∃ k : Nat, k ≤ xs.length ∧ i = .int .i64 k ∧ v = .int .i64 (q + k) ∧ Whole wr g 3 (marked (fun i : Nat => .int .i64 (q + (i : Int))) cs k) ∧ Span lo hi w wr) (fun _ i _ => xs.length - (intOf i).toNat)
    case atStart => exact ⟨0, Nat.zero_le _, rfl, by simp, hm0, Span.refl _ _ _⟩
    case round =>
      obtain ⟨k, hk, rfl, rfl, hm, hs⟩ := hrel
      clear hm0 hw
      by_cases hlt : k < xs.length
      · obtain ⟨u, hu⟩ := marked_at (fun i : Nat => .int .i64 (q + (i : Int))) cs (show k < cs.size by omega)
        have hcell := (hm.cell k).trans hu
        have hfr := hm.open_ k
        have hset := hm.set_ k (.int .i64 (q + k))
        rw [marked_next (fun i : Nat => .int .i64 (q + (i : Int))) cs (show k < cs.size by omega)] at hset
        have hs' : Span lo hi w (wr.setCell ⟨g, k, none⟩ (.int .i64 (q + k))) :=
          hs.trans ⟨rfl, rfl, rfl, by simp [World.setCell], fun j _ hj => Below.heap_setCell _ _ _ _ (by show j ≠ g; omega)⟩
        clear hm hu hs
        have hq0 : (0 : Int) ≤ q + k := by omega
        go_wp2
        go_roundw
        case rel => exact ⟨k + 1, by omega, by go_num, by first | exact congrArg _ (by omega) | (simp; omega), hset, hs'⟩
        case measure => simp [intOf]; omega
      · have hkn : k = xs.length := by omega
        subst hkn
        go_wp2
        go_ret
        refine ⟨rfl, hs, .inr ⟨g, _, rfl, hlo, hhi, hm, ?_, ?_⟩⟩
        · simp [nums_len, marksI_len, marked]
        · rw [nums_len, marksI_len, marked_take _ _ _]
          simp [nums, marksI]

set_option maxHeartbeats 800000 in
theorem heldBoolS_any (A : Option Addr) (n c : Nat) (q : Int) (w : World) (hA : Holds w A (bits (marksB q n))) (h0 : 0 ≤ q) (h1 : q ≤ 4611686018427387904) (hn : n ≤ 1048576) :
    Calls Try.prog 91 #[.slice A n c, .int .i64 q] w fun e w' => e = .returned (.int .i64 (q + n)) ∧ w = w' := by
  have hl := marksB_len q n
  have HL := Lib.hid hl
  clear hl
  go_enter Try.func91, Try.ntmps91
  go_wp2
  go_loop [1, 5] (fun v i => ∃ k : Nat, k ≤ n ∧ i = .int .i64 k ∧ v = .int .i64 (q + k)) (fun _ i => n - (intOf i).toNat)
  case atStart => exact ⟨0, Nat.zero_le _, rfl, by simp⟩
  case round =>
    obtain ⟨k, hk, rfl, rfl⟩ := hrel
    by_cases hlt : k < n
    · obtain ⟨b, o, rfl, hb, hc⟩ := hA.look (k := k) (by rw [bits_len, HL.out]; exact hlt)
      have hv : (bits (marksB q n))[k]'(by rw [bits_len, HL.out]; exact hlt) = .bool ((q + (k : Int)) % 3 == 0) := by simp [bits, marksB]
      rw [hv] at hc
      clear hv
      have hq0 : (0 : Int) ≤ q + k := by omega
      go_wp2
      go_round
      case rel => exact ⟨k + 1, by omega, by go_num, by first | exact congrArg _ (by omega) | (simp; omega)⟩
      case measure => simp [intOf]; omega
    · have hkn : k = n := by omega
      subst hkn
      go_wp2
      go_ret
      exact ⟨rfl, rfl⟩

set_option maxHeartbeats 800000 in
theorem heldIntS_any (A : Option Addr) (n c : Nat) (q : Int) (w : World) (hA : Holds w A (nums (marksI q n))) (h0 : 0 ≤ q) (h1 : q ≤ 4611686018427387904) (hn : n ≤ 1048576) :
    Calls Try.prog 58 #[.slice A n c, .int .i64 q] w fun e w' => e = .returned (.int .i64 (q + n)) ∧ w = w' := by
  have hl := marksI_len q n
  have HL := Lib.hid hl
  clear hl
  go_enter Try.func58, Try.ntmps58
  go_wp2
  go_loop [1, 5] (fun v i => ∃ k : Nat, k ≤ n ∧ i = .int .i64 k ∧ v = .int .i64 (q + k)) (fun _ i => n - (intOf i).toNat)
  case atStart => exact ⟨0, Nat.zero_le _, rfl, by simp⟩
  case round =>
    obtain ⟨k, hk, rfl, rfl⟩ := hrel
    by_cases hlt : k < n
    · obtain ⟨b, o, rfl, hb, hc⟩ := hA.look (k := k) (by rw [nums_len, HL.out]; exact hlt)
      have hv : (nums (marksI q n))[k]'(by rw [nums_len, HL.out]; exact hlt) = .int .i64 (q + (k : Int)) := by simp [nums, marksI]
      rw [hv] at hc
      clear hv
      have hq0 : (0 : Int) ≤ q + k := by omega
      go_wp2
      go_round
      case rel => exact ⟨k + 1, by omega, by go_num, by first | exact congrArg _ (by omega) | (simp; omega)⟩
      case measure => simp [intOf]; omega
    · have hkn : k = n := by omega
      subst hkn
      go_wp2
      go_ret
      exact ⟨rfl, rfl⟩

set_option maxHeartbeats 400000 in
theorem markParty_any (A : Option Addr) (n c lo hi : Nat) (xs : List Value) (s q : Int) (w : World) (hf : Fresh w lo hi 3 A xs) (hx : xs.length = n) (h0 : 0 ≤ q) (h1 : q ≤ 4611686018427387904) (hn : n ≤ 1048576) :
    Calls Try.prog 23 #[.agg #[.slice A n c, .int .i64 s], .int .i64 q] w fun e w' => e = .returned (.int .i64 (q + n)) ∧ Span lo hi w w' ∧ Fresh w' lo hi 3 A (nums (marksI q n)) := by
  have HX := Lib.hid hx
  clear hx
  go_enter Try.func23, Try.ntmps23
  go_wp2_with fail
  refine (markIntS_any A n c lo hi xs q _ (hf.alloc _) HX.out h0 h1 hn).mono ?_
  rintro e w1 ⟨rfl, hs, hf1⟩
  go_wp2
  go_ret
  exact ⟨rfl, (Span.of_below (below1 w _) lo hi).trans hs, hf1⟩

end Go.Proofs.Ytlpeimlbpiofkaa

namespace Go.Proofs.Ytlpeimlbpiofkaa
open Go.RowKit

/-- What a call hands back that makes a list of truth values. -/
def BitsPost (bs : List Bool) (w : World) (e : Ending) (w' : World) : Prop :=
  ∃ (A : Option Addr) (c : Nat), e = .returned (.slice A bs.length c) ∧ Fresh w' w.heap.size w'.heap.size 4 A (bits bs) ∧ Below w.heap.size w w'
/-- What a call hands back that makes a state and tells whether it did. -/
def StatePost (bs : List Bool) (t ok : Bool) (w : World) (e : Ending) (w' : World) : Prop :=
  ∃ (A : Option Addr) (c : Nat), e = .returned (.tuple #[.agg #[.slice A bs.length c, .bool t], .bool ok]) ∧ Fresh w' w.heap.size w'.heap.size 4 A (bits bs) ∧ Below w.heap.size w w'

theorem bits_one (bs : List Bool) : ∀ u ∈ bits bs, u.oneCell' = true := by
  intro v hv
  simp only [bits, List.mem_map] at hv
  obtain ⟨x, -, rfl⟩ := hv
  rfl

set_option maxHeartbeats 800000 in
set_option maxRecDepth 100000 in
theorem cloneB_any (b o n d : Nat) (bs : List Bool) (w : World) (hB : ∀ j u, (bits bs)[j]? = some u → w.cell? ⟨b, o + j, none⟩ = some u) (hy : bs.length = n) (hn : n ≤ 1048576) :
    Calls Try.prog 126 #[.slice (some ⟨b, o, none⟩) n d] w (BitsPost bs w) := by
  subst hy
  obtain ⟨i0, hi, hz0, hz1, hz2⟩ := info_parts info_bool
  have HI := Lib.hid hi
  have HZ0 := Lib.hid hz0
  have HZ1 := Lib.hid hz1
  have HZ2 := Lib.hid hz2
  have HB := Lib.hid hB
  clear hi hz0 hz1 hz2 hB
  go_enter Try.func126, Try.ntmps126
  have hnil := fun (W : World) => Lib.run_eql_slice_nil (P := Try.prog) W 38 4 (some ⟨b, o, none⟩) bs.length d 0 0 Try.underlying38
  have HOWN := Lib.hid (World.ownsRow_made (base := w.heap.size) (e := 4) (size := 1) w #[] 0 (Nat.le_refl _) (by unfold maxLen; omega) rfl)
  have hnews : ∀ j u, (bits bs)[j]? = some u → (w.alloc (.cells #[] 4)).cell? ((⟨b, o, none⟩ : Addr).add j) = some u := fun j u hu => by
    rw [show (⟨b, o, none⟩ : Addr).add j = ⟨b, o + j, none⟩ from by unfold Addr.add; split <;> simp_all]
    have h := HB.out j u hu
    rw [World.cell?_alloc_lt _ _ _ (block_lt_of_cell h)]
    exact h
  have HNEWS := Lib.hid hnews
  have HLEN := Lib.hid (show (bits bs).length = bs.length * 1 by rw [bits_len, Nat.mul_one])
  have HONE := Lib.hid (bits_one bs)
  have HMAX := Lib.hid (show 0 + bs.length ≤ maxLen by unfold maxLen; omega)
  have HBYT := Lib.hid (show (0 + bs.length) * 1 ≤ 140737488355328 by omega)
  clear hnews
  go_wp2_with (at_builtin; refine wpList_append_own _ rfl (.tmp 5) (.tmp 6) 38 rfl w.heap.size 4 i0 (.bool false) 1 1 Try.underlying38 HI.out HZ0.out HZ1.out HZ2.out rfl (by decide) _ 0 [] rfl HOWN.out ⟨b, o, none⟩ bs.length d (bits bs) rfl HLEN.out HNEWS.out HONE.out HMAX.out HBYT.out (by simp) ?_; intro v' w1 hown1 hg1 _)
  go_ret
  simp only [Nat.zero_add, List.nil_append] at hown1
  obtain ⟨A, c, hv, hf⟩ := Fresh.of_own hown1 (Nat.le_refl _)
  refine ⟨A, c, by rw [← hv]; rfl, hf, ?_⟩
  exact (below1 w _).grown hg1 (by simp) (fun k hk => Nat.le_of_eq (Option.some.inj (show some w.heap.size = some k from hk)))

/-- So many people, none over. -/
def falses (n : Nat) : List Bool := List.replicate n false
theorem falses_len (n : Nat) : (falses n).length = n := by simp [falses]

set_option maxHeartbeats 800000 in
set_option maxRecDepth 100000 in
theorem paFirst_any (A : Option Addr) (n c : Nat) (s : Int) (w : World) (hn : n ≤ 1048576) :
    Calls Try.prog 70 #[.agg #[.slice A n c, .int .i64 s]] w fun e w' => e = .returned (.agg #[.slice (some ⟨w.heap.size + 1 + 1, 0, none⟩) n n, .bool false]) ∧ Whole w' (w.heap.size + 1 + 1) 4 (bits (falses n)).toArray ∧ Below w.heap.size w w' := by
  obtain ⟨i0, hi, hz0, hz1, hz2⟩ := info_parts info_bool
  have hmk : ∀ W : World, (Instr.makeSlice 38 (.int .i64 (n : Int)) (.int .i64 (n : Int))).run Try.prog W = .ok (.slice (some ⟨W.heap.size, 0, none⟩) n n) (W.alloc (.cells (bits (falses n)).toArray 4)) := by
    intro W
    have h := run_make (P := Try.prog) W 38 4 i0 _ Try.underlying38 hi hz0 .i64 .i64 n n (by omega) (by omega) (by rw [hz2]; omega) (by omega)
    simp only [Int.toNat_natCast, hz1, made_falses] at h
    rw [h]
    rfl
  clear hi hz0 hz1 hz2
  go_enter Try.func70, Try.ntmps70
  go_wp2
  go_returns
  have hw := Whole.fresh ((w.alloc (.cells #[.slice A n c, .int .i64 s] 28)).alloc (.cells #[.slice (some ⟨w.heap.size + 1 + 1, 0, none⟩) n n, .bool false] 44)) 4 (bits (falses n)).toArray
  simp only [World.size_alloc] at hw
  exact ⟨rfl, hw, below3 w _ _ _⟩

/-- The places of the first state: none where there is no party. -/
def firstBits (xs : List Int) (n : Nat) (s : Int) : List Bool := if isParty xs s then falses n else []
theorem firstBits_le (xs : List Int) (n : Nat) (s : Int) : (firstBits xs n s).length ≤ n := by
  rw [firstBits]
  split
  · rw [falses_len]; exact Nat.le_refl _
  · simp

end Go.Proofs.Ytlpeimlbpiofkaa

namespace Go.Proofs.Ytlpeimlbpiofkaa
open Go.RowKit

/-- What a call hands back that makes a state. -/
def StateRes (bs : List Bool) (t : Bool) (w : World) (e : Ending) (w' : World) : Prop :=
  ∃ (A : Option Addr) (c : Nat), e = .returned (.agg #[.slice A bs.length c, .bool t]) ∧ Fresh w' w.heap.size w'.heap.size 4 A (bits bs) ∧ Below w.heap.size w w'

theorem Fresh.set_out {w : World} {lo hi b o : Nat} {ty : TypeId} {A : Option Addr} {xs : List Value} {u : Value} (hf : Fresh w lo hi ty A xs) (hb : b < lo ∨ hi ≤ b) : Fresh (w.setCell ⟨b, o, none⟩ u) lo hi ty A xs := by
  rcases hf with rfl | ⟨g, cs, hA, h1, h2, hw, h3, h4⟩
  · exact .inl rfl
  · exact .inr ⟨g, cs, hA, h1, h2, hw.off (by omega), h3, h4⟩

theorem elem_eight (W : World) : (sizeOf (Try.prog.elem 71)).run Try.prog W = .ok 1 W := by kernel_rfl
theorem len_eight : Try.prog.arrayLen 71 = 8 := by kernel_rfl
theorem arr_eight : Try.prog.underlying 71 = some (.array (Try.prog.arrayLen 71) (Try.prog.elem 71)) := by kernel_rfl
theorem slice_eight (W : World) (g n : Nat) (h : n ≤ 8) : (Instr.sliceAt 71 (.pointer (some ⟨g, 0, none⟩)) none (some (.int .i64 (n : Int))) none).run Try.prog W = .ok (.slice (some ⟨g, 0, none⟩) n 8) W := by
  rw [run_sliceAt_array_h W 71 _ arr_eight .i64 (n : Int) (by omega) (by rw [len_eight]; omega), elem_eight]
  simp [slicedAt, len_eight, Result.andThen, Addr.add]

set_option maxHeartbeats 800000 in
set_option maxRecDepth 100000 in
theorem placeState_any (bs : List Bool) (t : Bool) (n : Nat) (w : World) (hy : bs.length = n) (hn : n ≤ 8) :
    Calls Try.prog 89 #[.agg (placeCells bs t), .int .i64 n] w (StateRes bs t w) := by
  subst hy
  have hp := (Whole.fresh w 75 (placeCells bs t)).alloc (.cells #[.slice none 0 0, .bool false] 44)
  have hr := Whole.fresh (w.alloc (.cells (placeCells bs t) 75)) 44 #[.slice none 0 0, .bool false]
  rw [World.size_alloc] at hr
  have hb2 := below2 w (.cells (placeCells bs t) 75) (.cells #[.slice none 0 0, .bool false] 44)
  have ht8 := (hp.cell 8).trans (show (placeCells bs t)[8]? = some (.bool t) from rfl)
  have hB : ∀ j u, (bits bs)[j]? = some u → ((w.alloc (.cells (placeCells bs t) 75)).alloc (.cells #[.slice none 0 0, .bool false] 44)).cell? ⟨w.heap.size, 0 + j, none⟩ = some u := fun j u hu => by
    have hj : j < bs.length := by have := (List.getElem?_eq_some_iff.1 hu).1; rwa [bits_len] at this
    rw [Nat.zero_add, hp.cell j, place_at bs t (by omega), ← hu]
    simp [bits, hj]
  have HB := Lib.hid hB
  clear hB
  have hsl := fun W : World => slice_eight W w.heap.size bs.length hn
  go_enter Try.func89, Try.ntmps89
  go_wp2
  go_region_held3 (fun w' => w'.cell? ⟨w.heap.size, 8, none⟩ = some (.bool t)) (go_keep)
    (first | (go_at_call 126; refine (cloneB_any w.heap.size 0 bs.length 8 bs _ (by exact HB.out) rfl (by omega)).mono ?_; rintro e w1 ⟨A, c, rfl, hf, hb⟩; have k8 := ((hp.drew.below hb).cell 8).trans (show (placeCells bs t)[8]? = some (.bool t) from rfl); obtain ⟨r0, r1, f0, f1⟩ := (hr.drew.below hb).two))
  have hlw : w.heap.size + 1 + 1 ≤ w1.heap.size := by have := hb.size; simpa using this
  have HF := Lib.hid ((hf.set_out (b := w.heap.size + 1) (o := 0) (u := .slice A bs.length c) (.inl (by simp))).set_out (b := w.heap.size + 1) (o := 1) (u := .bool t) (.inl (by simp)))
  have HBW := Lib.hid (below_then hb2.drew hb (by simp; omega))
  clear hf hb
  go_wp2
  refine bodyPost_ret (v := .agg #[.slice A bs.length c, .bool t]) (by simp [results, Try.results89, go_sem, r0, r1]) rfl ⟨A, c, rfl, ?_, ?_⟩
  · have h := HF.out.more (lo' := w.heap.size) (hi' := w1.heap.size) (by simp; omega) (Nat.le_refl _)
    simpa [World.setCell] using h
  · exact below_set (below_set HBW.out (by omega)) (by omega)

theorem falses_get (n i : Nat) : (falses n).getD i false = false := by
  simp only [falses, List.getD_eq_getElem?_getD, List.getElem?_replicate]
  split <;> rfl
theorem place_falses (n : Nat) : placeCells (falses n) false = placeCells [] false := by
  simp only [placeCells, falses_get]
  rfl

theorem placeState_none (n : Nat) (w : World) (hn : n ≤ 8) :
    Calls Try.prog 89 #[.agg #[.bool false, .bool false, .bool false, .bool false, .bool false, .bool false, .bool false, .bool false, .bool false], .int .i64 n] w (StateRes (falses n) false w) := by
  have h := placeState_any (falses n) false n w (falses_len n) hn
  rw [place_falses] at h
  exact h

end Go.Proofs.Ytlpeimlbpiofkaa

namespace Go.Proofs.Ytlpeimlbpiofkaa
open Go.RowKit

/-- So many people, all over. -/
def trues (n : Nat) : List Bool := List.replicate n true
theorem trues_len (n : Nat) : (trues n).length = n := by simp [trues]
theorem trues_next (n : Nat) : bits (trues n) ++ [.bool true] = bits (trues (n + 1)) := by
  simp [bits, trues, List.replicate_succ']

set_option maxHeartbeats 1600000 in
set_option maxRecDepth 100000 in
theorem paLast_any (A : Option Addr) (n c : Nat) (s : Int) (w : World) (hn : n ≤ 1048576) :
    Calls Try.prog 69 #[.agg #[.slice A n c, .int .i64 s]] w (StateRes (trues n) true w) := by
  obtain ⟨i0, hi, hz0, hz1, hz2⟩ := info_parts info_bool
  have HI := Lib.hid hi
  have HZ0 := Lib.hid hz0
  have HZ1 := Lib.hid hz1
  have HZ2 := Lib.hid hz2
  clear hi hz0 hz1 hz2
  have h1 := (Whole.fresh (w.alloc (.cells #[.slice A n c, .int .i64 s] 28)) 44 #[.slice none 0 0, .bool false]).alloc (.cells #[.slice none 0 0, .bool true] 44)
  have h2 := Whole.fresh ((w.alloc (.cells #[.slice A n c, .int .i64 s] 28)).alloc (.cells #[.slice none 0 0, .bool false] 44)) 44 #[.slice none 0 0, .bool true]
  have hb0 := below3 w (.cells #[.slice A n c, .int .i64 s] 28) (.cells #[.slice none 0 0, .bool false] 44) (.cells #[.slice none 0 0, .bool true] 44)
  simp only [World.size_alloc] at h1 h2
  go_enter Try.func69, Try.ntmps69
  go_wp2
  go_loopw [8] (fun i wr => ∃ (k : Nat) (D : Option Addr) (q : Nat), k ≤ n ∧ i = .int .i64 k ∧ wr.ownsRow (w.heap.size + 1 + 1 + 1) 4 1 (.slice D k q) k (bits (trues k)) ∧ Whole wr (w.heap.size + 1) 44 #[.slice none 0 0, .bool false] ∧ Whole wr (w.heap.size + 1 + 1) 44 #[.slice D k q, .bool true] ∧ Below w.heap.size w wr) (fun i _ => n - (intOf i).toNat)
  case atStart => exact ⟨0, none, 0, Nat.zero_le _, rfl, World.ownsRow_nil _ _ _ _, h1, h2, hb0⟩
  case round =>
    clear h1 h2 hb0
    obtain ⟨k, D, q, hk, rfl, hown, h1, h2, hb⟩ := hrel
    obtain ⟨a0, a1, e0, e1⟩ := h2.two
    have hl2 := h2.lt
    by_cases hlt : k < n
    · have hOW := Lib.hid (hown.alloc (.cells #[.bool true] 4))
      have h1' := Lib.hid (h1.alloc (.cells #[.bool true] 4))
      have h2' := Lib.hid (h2.alloc (.cells #[.bool true] 4))
      have hb' := Lib.hid (hb.alloc hb.size (.cells #[.bool true] 4))
      have hbase : w.heap.size + 1 + 1 + 1 ≤ (wr.alloc (.cells #[.bool true] 4)).heap.size := by simp; omega
      have HBASE := Lib.hid hbase
      have HMAX := Lib.hid (show k + 1 ≤ maxLen by unfold maxLen; omega)
      have HBYT := Lib.hid (show (k + 1) * 1 ≤ 140737488355328 by omega)
      clear hown h1 h2 hb hbase
      go_wp2_with (at_builtin; refine wpList_append_own _ rfl (.tmp 11) (.tmp 12) 38 rfl (w.heap.size + 1 + 1 + 1) 4 i0 (.bool false) 1 1 Try.underlying38 HI.out HZ0.out HZ1.out HZ2.out rfl (by decide) (.slice D k q) k (bits (trues k)) rfl hOW.out ⟨wr.heap.size, 0, none⟩ 1 1 [.bool true] rfl rfl (cell_one_new _ _ _) (by simp [Value.oneCell']) HMAX.out HBYT.out HBASE.out ?_; intro v' w1 hown1 hg1 _; obtain ⟨D', q', hv', -⟩ := Fresh.of_own hown1 (Nat.le_refl _); rw [hv'] at hown1 ⊢; clear hv'; have g2 : Whole w1 (w.heap.size + 1 + 1) 44 #[.slice D k q, .bool true] := (hg1.block _ h2'.out.lt (fun e => by have := (hOW.out.lt _ e.symm).1; omega)).trans h2'.out; have g1 : Whole w1 (w.heap.size + 1) 44 #[.slice none 0 0, .bool false] := (hg1.block _ h1'.out.lt (fun e => by have := (hOW.out.lt _ e.symm).1; omega)).trans h1'.out; obtain ⟨b0, b1, f0, f1⟩ := g2.two)
      have hbw : Below w.heap.size w w1 := hb'.out.grown hg1 (by have := hb'.out.size; omega) (fun kk e => by have := (hOW.out.lt _ e).1; omega)
      rw [trues_next] at hown1
      have hown2 := ownsRow_setCell_below hown1 (a := ⟨w.heap.size + 1 + 1, 0, none⟩) (by show w.heap.size + 1 + 1 < _; omega) (.slice D' (k + 1) q')
      go_roundw
      case rel => exact ⟨k + 1, D', q', by omega, by go_num, hown2, g1.off (by omega), g2.set_ 0 (.slice D' (k + 1) q'), below_set hbw (by omega)⟩
      case measure => simp [intOf]; omega
    · have hkn : k = n := by omega
      subst hkn
      obtain ⟨r0, r1, f0, f1⟩ := h1.two
      obtain ⟨D', q', hv', hf⟩ := Fresh.of_own hown (Nat.le_refl _)
      simp only [Value.slice.injEq, true_and] at hv'
      obtain ⟨rfl, rfl⟩ := hv'
      have HF := Lib.hid (((hf.set_out (b := w.heap.size + 1) (o := 0) (u := .slice D k q) (.inl (by omega))).set_out (b := w.heap.size + 1) (o := 1) (u := .bool true) (.inl (by omega))).more (lo' := w.heap.size) (hi' := wr.heap.size) (by omega) (Nat.le_refl _))
      clear hf hown
      go_wp2
      refine bodyPost_ret (v := .agg #[.slice D k q, .bool true]) (by simp [results, Try.results69, go_sem, r0, r1]) rfl ⟨D, q, by rw [trues_len], ?_, ?_⟩
      · have h := HF.out
        simpa [World.setCell] using h
      · exact below_set (below_set hb (by omega)) (by omega)

/-- The places of the last state: none where there is no party. -/
def lastBits (xs : List Int) (n : Nat) (s : Int) : List Bool := if isParty xs s then trues n else []
theorem lastBits_le (xs : List Int) (n : Nat) (s : Int) : (lastBits xs n s).length ≤ n := by
  rw [lastBits]
  split
  · rw [trues_len]; exact Nat.le_refl _
  · simp

theorem place_over (n : Nat) (h : n < 8) : (placeCells (trues n) true).setIfInBounds n (.bool true) = placeCells (trues (n + 1)) true := by
  match n, h with
  | 0, _ => rfl
  | 1, _ => rfl
  | 2, _ => rfl
  | 3, _ => rfl
  | 4, _ => rfl
  | 5, _ => rfl
  | 6, _ => rfl
  | 7, _ => rfl
theorem size_place : (Try.prog.info? 75).map (·.size) = some 9 := by kernel_rfl
theorem place_one (bs : List Bool) (t : Bool) : (placeCells bs t).all (·.oneCell') = true := by simp [placeCells, Value.oneCell']

set_option maxHeartbeats 1600000 in
theorem everybodyOver_any (n : Nat) (w : World) (hn : n ≤ 8) :
    Calls Try.prog 101 #[.int .i64 n] w fun e w' => e = .returned (.agg (placeCells (trues n) true)) ∧ Below w.heap.size w w' := by
  have h1 := (Whole.fresh w 75 (placeCells [] false)).alloc (.cells (placeCells (trues 0) true) 75)
  have h2 := Whole.fresh (w.alloc (.cells (placeCells [] false) 75)) 75 (placeCells (trues 0) true)
  have hb0 := below2 w (.cells (placeCells [] false) 75) (.cells (placeCells (trues 0) true) 75)
  simp only [World.size_alloc] at h1 h2
  go_enter Try.func101, Try.ntmps101
  go_wp2
  go_loopw [7] (fun i wr => ∃ k : Nat, k ≤ n ∧ i = .int .i64 k ∧ Whole wr w.heap.size 75 (placeCells [] false) ∧ Whole wr (w.heap.size + 1) 75 (placeCells (trues k) true) ∧ Below w.heap.size w wr) (fun i _ => n - (intOf i).toNat)
  case atStart => exact ⟨0, Nat.zero_le _, rfl, h1, h2, hb0⟩
  case round =>
    clear h1 h2 hb0
    obtain ⟨k, hk, rfl, h1, h2, hb⟩ := hrel
    by_cases hlt : k < n
    · have hk8 : k < 8 := by omega
      have hki : (k : Int) < 8 := by omega
      have hcell := (h2.cell k).trans (place_at (trues k) true hk8)
      have hfr := h2.open_ k
      have hset := h2.set_ k (.bool true)
      rw [place_over k hk8] at hset
      go_wp2
      go_roundw
      case rel => exact ⟨k + 1, by omega, by go_num, h1.off (by omega), hset, below_set hb (by omega)⟩
      case measure => simp [intOf]; omega
    · have hkn : k = n := by omega
      subst hkn
      go_wp2_with (first | (refine wpList_load_row rfl 75 (.tmp 3) rfl (w.heap.size + 1) rfl 75 (placeCells (trues k) true) (0, 0) _ h2 Try.underlying75 rfl size_place ?_) | (refine wpList_store_whole rfl 75 (.tmp 2) (.tmp 15) rfl w.heap.size (placeCells (trues k) true) rfl rfl 75 (placeCells [] false) h1 size_place rfl (place_one _ _) ?_; intro w2 hw2 ho2))
      have hb2 := ho2.below hb (by omega)
      obtain ⟨r0, r1, r2, r3, r4, r5, r6, r7, r8⟩ := place_cells hw2
      refine bodyPost_ret (v := .agg (placeCells (trues k) true)) (by simp [results, Try.results101, go_sem, r0, r1, r2, r3, r4, r5, r6, r7, r8, placeCells]) rfl ⟨rfl, hb2⟩

end Go.Proofs.Ytlpeimlbpiofkaa

namespace Go.Proofs.Ytlpeimlbpiofkaa
open Go.RowKit

/-- The places behind a trip: those on the list have changed sides. -/
def flipped (bs : List Bool) (l : List Int) : List Bool := (List.range bs.length).map fun i => bs.getD i false != has l i
theorem flipped_len (bs : List Bool) (l : List Int) : (flipped bs l).length = bs.length := by simp [flipped]
theorem flipped_at (bs : List Bool) (l : List Int) {i : Nat} (h : i < bs.length) : (flipped bs l)[i]? = some (bs.getD i false != has l i) := by simp [flipped, h]
theorem flipped_get (bs : List Bool) (l : List Int) {i : Nat} (h : i < bs.length) : (flipped bs l).getD i false = (bs.getD i false != has l i) := by
  rw [List.getD_eq_getElem?_getD, flipped_at bs l h]; rfl
theorem flipped_out (bs : List Bool) (l : List Int) {i : Nat} (h : bs.length ≤ i) : (flipped bs l).getD i false = false := by
  rw [List.getD_eq_getElem?_getD, List.getElem?_eq_none (by rw [flipped_len]; exact h)]; rfl
theorem flipped_nil (bs : List Bool) : flipped bs [] = bs := by
  apply List.ext_getElem?
  intro i
  by_cases h : i < bs.length
  · rw [flipped_at bs [] h]; simp [has, h]
  · rw [List.getElem?_eq_none (by rw [flipped_len]; omega), List.getElem?_eq_none (by omega)]
theorem flipped_next (bs : List Bool) {l : List Int} {j : Nat} (hj : j < l.length) (h0 : 0 ≤ l[j]) : (flipped bs (l.take j)).set (l[j]).toNat (!(bs.getD (l[j]).toNat false)) = flipped bs (l.take (j + 1)) := by
  apply List.ext_getElem?
  intro i
  rw [List.getElem?_set, flipped_len]
  by_cases hi : i < bs.length
  · rw [flipped_at bs _ hi, flipped_at bs _ hi, List.take_succ_eq_append_getElem hj, has_snoc]
    by_cases he : (l[j]).toNat = i
    · have hx : (l[j] == (i : Int)) = true := by simp; omega
      rw [if_pos he, if_pos (by omega), he, hx]
      cases has (l.take j) i <;> cases bs.getD i false <;> rfl
    · have hx : (l[j] == (i : Int)) = false := by simp; omega
      rw [if_neg he, hx, Bool.or_false]
  · rw [List.getElem?_eq_none (l := flipped bs (l.take (j + 1))) (by rw [flipped_len]; omega)]
    by_cases he : (l[j]).toNat = i
    · rw [if_pos he, if_neg (by omega)]
    · rw [if_neg he, List.getElem?_eq_none (by rw [flipped_len]; omega)]
theorem has_out {l : List Int} {n i : Nat} (hs : StepsTo l (n - 1) l.length) (h : n ≤ i) : has l i = false := by
  cases hh : has l i
  · rfl
  · have := (mem_steps hs (has_iff.1 hh)).2
    omega

/-- Places and torch behind all trips. -/
def after : List Bool → Bool → List (List Int) → List Bool × Bool
  | bs, t, [] => (bs, t)
  | bs, t, l :: ls => after (flipped bs l) (!t) ls
theorem after_snoc (l : List Int) : ∀ (ls : List (List Int)) (bs : List Bool) (t : Bool), after bs t (ls ++ [l]) = (flipped (after bs t ls).1 l, !(after bs t ls).2)
  | [], _, _ => rfl
  | _ :: ls, _, _ => after_snoc l ls _ _
theorem after_len : ∀ (ls : List (List Int)) (bs : List Bool) (t : Bool), (after bs t ls).1.length = bs.length
  | [], _, _ => rfl
  | l :: ls, bs, _ => (after_len ls _ _).trans (flipped_len bs l)
/-- How many trips can be made. -/
noncomputable def made (n : Nat) (s : Int) : List Bool → Bool → List (List Int) → Nat
  | _, _, [] => 0
  | bs, t, l :: ls => if canGo n s bs t l then made n s (flipped bs l) (!t) ls + 1 else 0
theorem made_le (n : Nat) (s : Int) : ∀ (ls : List (List Int)) (bs : List Bool) (t : Bool), made n s bs t ls ≤ ls.length
  | [], _, _ => Nat.le_refl _
  | l :: ls, bs, t => by
    rw [made]
    split
    · have := made_le n s ls (flipped bs l) (!t); simp; omega
    · simp
/-- The first k trips can be made; the rest is still to be looked at. -/
def MadeTo (n : Nat) (s : Int) (bs : List Bool) (t : Bool) (ls : List (List Int)) (k : Nat) : Prop :=
  made n s bs t ls = k + made n s (after bs t (ls.take k)).1 (after bs t (ls.take k)).2 (ls.drop k)
theorem MadeTo.start (n : Nat) (s : Int) (bs : List Bool) (t : Bool) (ls : List (List Int)) : MadeTo n s bs t ls 0 := by simp [MadeTo, after]
theorem MadeTo.next {n : Nat} {s : Int} {bs : List Bool} {t : Bool} {ls : List (List Int)} {k : Nat} (h : MadeTo n s bs t ls k) (hk : k < ls.length) (hc : canGo n s (after bs t (ls.take k)).1 (after bs t (ls.take k)).2 ls[k] = true) : MadeTo n s bs t ls (k + 1) := by
  unfold MadeTo at h ⊢
  rw [h, List.drop_eq_getElem_cons hk, made, if_pos hc, List.take_succ_eq_append_getElem hk, after_snoc]
  dsimp only
  omega
theorem MadeTo.stop {n : Nat} {s : Int} {bs : List Bool} {t : Bool} {ls : List (List Int)} {k : Nat} (h : MadeTo n s bs t ls k) (hk : k < ls.length) (hc : canGo n s (after bs t (ls.take k)).1 (after bs t (ls.take k)).2 ls[k] = false) : made n s bs t ls = k := by
  unfold MadeTo at h
  rw [h, List.drop_eq_getElem_cons hk, made, if_neg (by simp [hc])]
  omega
theorem MadeTo.done {n : Nat} {s : Int} {bs : List Bool} {t : Bool} {ls : List (List Int)} {k : Nat} (h : MadeTo n s bs t ls k) (hk : ls.length ≤ k) : made n s bs t ls = k := by
  unfold MadeTo at h
  rw [h, List.drop_eq_nil_of_le hk, made]
  omega
/-- Places and torch behind the trips that can be made. -/
noncomputable def ended (n : Nat) (s : Int) (bs : List Bool) (t : Bool) (ls : List (List Int)) : List Bool × Bool := after bs t (ls.take (made n s bs t ls))
theorem ended_len (n : Nat) (s : Int) (bs : List Bool) (t : Bool) (ls : List (List Int)) : (ended n s bs t ls).1.length = bs.length := after_len _ _ _
theorem can_steps {n : Nat} {s : Int} {bs : List Bool} {t : Bool} {l : List Int} (h : canGo n s bs t l = true) : StepsTo l (n - 1) l.length := by
  simp only [canGo, Bool.and_eq_true] at h
  exact trip_steps h.1
theorem trip_short {n : Nat} {s : Int} {l : List Int} (h : isTrip n s l = true) : (l.length : Int) ≤ s := by
  simp only [isTrip, Bool.and_eq_true] at h
  exact (within_iff.1 h.1).2
end Go.Proofs.Ytlpeimlbpiofkaa

namespace Go.Proofs.Ytlpeimlbpiofkaa
open Go.RowKit

/-- One cell of the place while the first k people are looked at. -/
def crossAt (bs : List Bool) (l : List Int) (k i : Nat) : Bool := if i < k then bs.getD i false != has l i else bs.getD i false
def crossTo (bs : List Bool) (t : Bool) (l : List Int) (k : Nat) : Array Value := #[.bool (crossAt bs l k 0), .bool (crossAt bs l k 1), .bool (crossAt bs l k 2), .bool (crossAt bs l k 3), .bool (crossAt bs l k 4), .bool (crossAt bs l k 5), .bool (crossAt bs l k 6), .bool (crossAt bs l k 7), .bool t]
theorem crossAt_here (bs : List Bool) (l : List Int) (k : Nat) : crossAt bs l k k = bs.getD k false := by simp [crossAt]
theorem cross_get (bs : List Bool) (t : Bool) (l : List Int) {k : Nat} (h : k < 8) : (crossTo bs t l k)[k]? = some (.bool (bs.getD k false)) := by
  rw [← crossAt_here bs l k]
  match k, h with
  | 0, _ => rfl
  | 1, _ => rfl
  | 2, _ => rfl
  | 3, _ => rfl
  | 4, _ => rfl
  | 5, _ => rfl
  | 6, _ => rfl
  | 7, _ => rfl
theorem cross_skip (bs : List Bool) (t : Bool) {l : List Int} {k : Nat} (h : has l k = false) : crossTo bs t l (k + 1) = crossTo bs t l k := by
  have hh : ∀ i, crossAt bs l (k + 1) i = crossAt bs l k i := by
    intro i
    unfold crossAt
    by_cases h1 : i < k
    · rw [if_pos h1, if_pos (by omega)]
    · by_cases h2 : i = k
      · subst h2; rw [if_pos (by omega), if_neg h1, h]; cases bs.getD i false <;> rfl
      · rw [if_neg h1, if_neg (by omega)]
  simp only [crossTo, hh]
theorem cross_turn (bs : List Bool) (t : Bool) {l : List Int} {k : Nat} (hk : k < 8) (h : has l k = true) : (crossTo bs t l k).setIfInBounds k (.bool (!(bs.getD k false))) = crossTo bs t l (k + 1) := by
  have h1 : crossAt bs l (k + 1) k = !(bs.getD k false) := by
    unfold crossAt; rw [if_pos (by omega), h]; cases bs.getD k false <;> rfl
  have hh : ∀ i, i ≠ k → crossAt bs l (k + 1) i = crossAt bs l k i := by
    intro i hi
    unfold crossAt
    by_cases h1 : i < k
    · rw [if_pos h1, if_pos (by omega)]
    · rw [if_neg h1, if_neg (by omega)]
  rw [← h1]
  unfold crossTo
  match k, hk with
  | 0, _ => simp [hh]
  | 1, _ => simp [hh]
  | 2, _ => simp [hh]
  | 3, _ => simp [hh]
  | 4, _ => simp [hh]
  | 5, _ => simp [hh]
  | 6, _ => simp [hh]
  | 7, _ => simp [hh]
theorem cross_start (bs : List Bool) (t : Bool) (l : List Int) : placeCells bs t = crossTo bs t l 0 := by simp [placeCells, crossTo, crossAt]
theorem cross_end {bs : List Bool} {t : Bool} {l : List Int} (h : ∀ i, bs.length ≤ i → has l i = false) : (crossTo bs t l 8).setIfInBounds 8 (.bool (!t)) = placeCells (flipped bs l) (!t) := by
  have hh : ∀ i, i < 8 → crossAt bs l 8 i = (flipped bs l).getD i false := by
    intro i hi
    rw [crossAt, if_pos hi]
    by_cases h1 : i < bs.length
    · rw [flipped_get bs l h1]
    · rw [flipped_out bs l (by omega), h i (by omega), List.getD_eq_getElem?_getD, List.getElem?_eq_none (by omega)]; rfl
  simp only [crossTo, placeCells, hh 0 (by omega), hh 1 (by omega), hh 2 (by omega), hh 3 (by omega), hh 4 (by omega), hh 5 (by omega), hh 6 (by omega), hh 7 (by omega)]
  rfl
theorem cross_one (bs : List Bool) (t : Bool) (l : List Int) (k : Nat) : (crossTo bs t l k).all (·.oneCell') = true := by simp [crossTo, Value.oneCell']

set_option maxHeartbeats 1600000 in
theorem cross_any (bs : List Bool) (l : List Int) (t : Bool) (w : World) (h : ∀ i, bs.length ≤ i → has l i = false) :
    Calls Try.prog 112 #[.agg (placeCells bs t), .agg (crowdCells l)] w fun e w' => e = .returned (.agg (placeCells (flipped bs l) (!t))) ∧ Below w.heap.size w w' := by
  have HEND := Lib.hid (cross_end (t := t) h)
  clear h
  have h0 := ((Whole.fresh w 75 (placeCells bs t)).alloc (.cells (crowdCells l) 73)).alloc (.cells (placeCells [] false) 75)
  have h2 := Whole.fresh ((w.alloc (.cells (placeCells bs t) 75)).alloc (.cells (crowdCells l) 73)) 75 (placeCells [] false)
  simp only [World.size_alloc] at h2
  have hb := below3 w (.cells (placeCells bs t) 75) (.cells (crowdCells l) 73) (.cells (placeCells [] false) 75)
  rw [cross_start bs t l] at h0
  have H0 := Lib.hid h0
  have H2 := Lib.hid h2
  have HB := Lib.hid hb
  clear h0 h2 hb
  unfold crowdCells at *
  go_enter Try.func112, Try.ntmps112
  go_wp2
  go_loopw [9] (fun i wr => ∃ k : Nat, k ≤ 8 ∧ i = .int .i64 k ∧ Whole wr w.heap.size 75 (crossTo bs t l k) ∧ Whole wr (w.heap.size + 1 + 1) 75 (placeCells [] false) ∧ Below w.heap.size w wr) (fun i _ => 8 - (intOf i).toNat)
  case atStart => exact ⟨0, Nat.zero_le _, rfl, H0.out, H2.out, HB.out⟩
  case round =>
    obtain ⟨k, hk, rfl, g0, g2, hb⟩ := hrel
    clear H0 H2 HB
    have hl0 := g0.lt
    have hl2 := g2.lt
    by_cases hlt : k < 8
    · have hix := index_crowd l hlt
      have hkk : (k : Int) < 8 := by omega
      cases hp : has l k
      · rw [hp] at hix
        have HN := Lib.hid (cross_skip bs t hp)
        clear hp
        go_wp2
        go_roundw
        case rel => exact ⟨k + 1, by omega, by go_num, by rw [HN.out]; exact g0, g2, hb⟩
        case measure => simp [intOf]; omega
      · rw [hp] at hix
        have hcell := (g0.cell k).trans (cross_get bs t l hlt)
        have hfr := g0.open_ k
        have hs := g0.set_ k (.bool (!(bs.getD k false)))
        rw [cross_turn bs t hlt hp] at hs
        have HS := Lib.hid hs
        have HF := Lib.hid (g2.off (b := w.heap.size) (o := k) (u := .bool (!(bs.getD k false))) (by omega))
        clear hp hs
        go_wp2
        go_roundw
        case rel => exact ⟨k + 1, by omega, by go_num, HS.out, HF.out, below_set hb (Nat.le_refl _)⟩
        case measure => simp [intOf]; omega
    · have hk8 : k = 8 := by omega
      subst hk8
      have hcell := (g0.cell 8).trans (show (crossTo bs t l 8)[8]? = some (.bool t) from rfl)
      have hfr := g0.open_ 8
      have hs := g0.set_ 8 (.bool (!t))
      rw [HEND.out] at hs
      have hg2 := g2.off (b := w.heap.size) (o := 8) (u := .bool (!t)) (by omega)
      have hbb := below_set (o := 8) (u := .bool (!t)) hb (Nat.le_refl w.heap.size)
      clear g0 g2 hb
      go_wp2_with (first | (refine wpList_load_row rfl 75 (.tmp 2) rfl w.heap.size rfl 75 (placeCells (flipped bs l) (!t)) (0, 0) _ hs Try.underlying75 rfl size_place ?_) | (refine wpList_store_whole rfl 75 (.tmp 4) (.tmp 29) rfl (w.heap.size + 1 + 1) (placeCells (flipped bs l) (!t)) rfl rfl 75 (placeCells [] false) hg2 size_place rfl (place_one _ _) ?_; intro w2 hw2 ho2))
      have hb2 := ho2.below hbb (by omega)
      obtain ⟨r0, r1, r2, r3, r4, r5, r6, r7, r8⟩ := place_cells hw2
      refine bodyPost_ret (v := .agg (placeCells (flipped bs l) (!t))) (by simp [results, Try.results112, go_sem, r0, r1, r2, r3, r4, r5, r6, r7, r8, placeCells]) rfl ⟨rfl, hb2⟩
end Go.Proofs.Ytlpeimlbpiofkaa
