/-
  What is proved: contracts of the laws' marks: a row of the call's own is overwritten by a count, and found so again. Conditions: the row is a new one, open to writes; counts are small.
  What is proved: contracts of the first state, as the model and the program make it. Conditions: the party's times are read as they lie.
  What is proved: contracts of the program's state of a place and of its FirstState. Conditions: the party's times are read as they lie; at most eight people.
  What is proved: plain facts on a struct of the call's own that is handed back by a call in a statement whose order is open. Conditions: none.
  What is proved: contracts of a byte written to a strings.Builder of the call's own, in this program's numbers. Conditions: the builder is only written; fewer than 2^47 bytes.
  What is proved: the contract of the model's copy of a list (l1Own), and plain facts on lists of the call's own. Conditions: the list is read as it lies; at most 1,048,576 numbers.
  What is proved: contracts of a party slowed down, as the model and the program make it. Conditions: the party's times are read as they lie.
  What is proved: contracts of a party without one person, as the model makes it; append onto a list of the call's own inside a region that draws. Conditions: the party's times are read as they lie.
  What is proved: contracts of the laws' own helpers for lists of lists of numbers: their size, their copy, their comparison. Conditions: the given lists are read as they lie; a copy is of at most 1,048,576 numbers.
  What is proved: contracts of the laws' copy and comparison of lists of lists of numbers. Conditions: the given lists are read as they lie; a copy is of at most 1,048,576 numbers.
  What is proved: contracts of the last state, as the model and the program make it. Conditions: the party's times are read as they lie.
  What is proved: plain facts on trips one after the other: who is where behind them, how many of them can be made. Conditions: none.
  What is proved: contracts of a trip made, by the model (paCross) and by the program (cross). Conditions: the trip is one; at most eight people.
  What is proved: the contract of a trip made by the model. Conditions: the trip is one.
  What is proved: the contract of trips made one after the other by the model. Conditions: the arguments are read as they lie; there is somebody.
  What is proved: the contract of the model's DropPerson. Conditions: the party's times are read as they lie.
  What is proved: contracts of the model's and the library's search for a number in a list. Conditions: the list is read as it lies.
  What is proved: the contract of the library's search for the first place of a number that is in a list. Conditions: the list is read as it lies.
  What is proved: the contract of the model's sorting (paSorted). Conditions: the list is read as it lies; at most 1,048,576 numbers.
  What is proved: plain facts on people in the order of their times, on the trips of two at once, and on an insertion sort. Conditions: none.
  What is proved: the contract of the model's prOrder: the people in the order of their times. Conditions: the times are read as they lie; at most 1,048,575 of them.
-/
import Derived.WalkSpells
import Derived.Deep.RegionHeld3
import Derived.Lib.Builder
import Derived.Shelf.Strings.Builder1
import Derived.Laws.AppendOwnNone
import Derived.Deep.DeepCutAuto
import Derived.Deep.RegionLawGrows
import Derived.Sort.Defs
import Derived.Test.YtkocompjjogciaaJ1HarderPuzzle
set_option linter.unusedSimpArgs false
set_option linter.unusedVariables false
namespace Go.Proofs.Ytkocompjjogciaa
open Go.RowKit

/-- A row of the call's own: it begins at the head of a block from lo on and before hi, and its first cells are xs. -/
def Fresh (w : World) (lo hi : Nat) (ty : TypeId) (A : Option Addr) (xs : List Value) : Prop :=
  xs = [] ∨ ∃ (g : Nat) (cs : Array Value), A = some ⟨g, 0, none⟩ ∧ lo ≤ g ∧ g < hi ∧ Whole w g ty cs ∧ xs.length ≤ cs.size ∧ cs.toList.take xs.length = xs
/-- Of what was there, only blocks from lo on and before hi may have turned. -/
structure Span (lo hi : Nat) (w w' : World) : Prop where
  os : w'.os = w.os
  tape : w'.tape = w.tape
  output : w'.output = w.output
  size : w.heap.size ≤ w'.heap.size
  block : ∀ k, k < w.heap.size → (k < lo ∨ hi ≤ k) → w'.heap[k]? = w.heap[k]?

section
variable {w w' : World} {lo hi lo' hi' B : Nat} {ty : TypeId} {A : Option Addr} {xs : List Value}
theorem Span.refl (lo hi : Nat) (w : World) : Span lo hi w w := ⟨rfl, rfl, rfl, Nat.le_refl _, fun _ _ _ => rfl⟩
theorem Span.of_below (h : Below w.heap.size w w') (lo hi : Nat) : Span lo hi w w' := ⟨h.os, h.tape, h.output, h.size, fun k hk _ => h.block k hk⟩
theorem Span.trans {a b c : World} (h : Span lo hi a b) (k : Span lo hi b c) : Span lo hi a c :=
  ⟨k.os.trans h.os, k.tape.trans h.tape, k.output.trans h.output, Nat.le_trans h.size k.size, fun i hi hne => (k.block i (Nat.lt_of_lt_of_le hi h.size) hne).trans (h.block i hi hne)⟩
theorem Span.below {a : World} (h : Span lo hi w w') (hb : Below B a w) (hB : B ≤ lo) (hs : B ≤ w.heap.size) : Below B a w' :=
  hb.trans ⟨h.os, h.tape, h.output, h.size, fun k hk => h.block k (by omega) (.inl (by omega))⟩
theorem Span.whole {g : Nat} {cs : Array Value} (h : Span lo hi w w') (hw : Whole w g ty cs) (hg : g < lo ∨ hi ≤ g) : Whole w' g ty cs := (h.block g hw.lt hg).trans hw
theorem Span.fresh (h : Span lo hi w w') (hf : Fresh w lo' hi' ty A xs) (hd : hi' ≤ lo ∨ hi ≤ lo') : Fresh w' lo' hi' ty A xs := by
  rcases hf with rfl | ⟨g, cs, hA, h1, h2, hw, h3, h4⟩
  · exact .inl rfl
  · exact .inr ⟨g, cs, hA, h1, h2, h.whole hw (by omega), h3, h4⟩
theorem Fresh.below (hf : Fresh w lo hi ty A xs) (h : Below w.heap.size w w') : Fresh w' lo hi ty A xs := by
  rcases hf with rfl | ⟨g, cs, hA, h1, h2, hw, h3, h4⟩
  · exact .inl rfl
  · exact .inr ⟨g, cs, hA, h1, h2, hw.below h, h3, h4⟩
theorem Fresh.alloc (hf : Fresh w lo hi ty A xs) (o : Obj) : Fresh (w.alloc o) lo hi ty A xs := hf.below (below1 w o)
theorem Fresh.drew (hf : Fresh w lo hi ty A xs) : Fresh w.drew lo hi ty A xs := hf
theorem Fresh.more (hf : Fresh w lo hi ty A xs) (h1 : lo' ≤ lo) (h2 : hi ≤ hi') : Fresh w lo' hi' ty A xs := by
  rcases hf with rfl | ⟨g, cs, hA, h3, h4, hw, h5, h6⟩
  · exact .inl rfl
  · exact .inr ⟨g, cs, hA, by omega, by omega, hw, h5, h6⟩
theorem Fresh.holds (hf : Fresh w lo hi ty A xs) : Holds w A xs := by
  rcases hf with rfl | ⟨g, cs, hA, -, -, hw, -, h4⟩
  · exact .inl rfl
  · refine .inr ⟨g, 0, hA, hw.lt, fun j u hu => ?_⟩
    have hj : j < xs.length := (List.getElem?_eq_some_iff.1 hu).1
    rw [Nat.zero_add, hw.cell j, ← hu]
    have := congrArg (fun l : List Value => l[j]?) h4
    simpa [List.getElem?_take, hj] using this
theorem Fresh.of_whole {g : Nat} (hw : Whole w g ty xs.toArray) (h1 : lo ≤ g) (h2 : g < hi) : Fresh w lo hi ty (some ⟨g, 0, none⟩) xs :=
  .inr ⟨g, _, rfl, h1, h2, hw, by simp, by simp⟩
theorem Fresh.of_own {n : Nat} {v : Value} (h : w.ownsRow lo ty 1 v n xs) (hs : w.heap.size ≤ hi) : ∃ (A : Option Addr) (c : Nat), v = .slice A n c ∧ Fresh w lo hi ty A xs := by
  obtain ⟨hl, h⟩ := h
  rcases h with ⟨hv, hn⟩ | ⟨g, cap, cur, hv, hg, hh, h1, h2, h3, h4⟩
  · subst hn
    exact ⟨none, 0, hv, .inl (List.eq_nil_of_length_eq_zero (by simpa using hl))⟩
  · have hw : Whole w g ty cur := hh
    refine ⟨_, cap, hv, .inr ⟨g, cur, rfl, hg, Nat.lt_of_lt_of_le hw.lt hs, hw, by omega, ?_⟩⟩
    rw [hl]
    exact h4
end

def marksI (k : Int) (n : Nat) : List Int := (List.range n).map fun (i : Nat) => k + (i : Int)
def marksB (k : Int) (n : Nat) : List Bool := (List.range n).map fun (i : Nat) => (k + (i : Int)) % 3 == 0
theorem marksI_len (k : Int) (n : Nat) : (marksI k n).length = n := by simp [marksI]
theorem marksB_len (k : Int) (n : Nat) : (marksB k n).length = n := by simp [marksB]

/-- The first k cells overwritten by the count from q on. -/
def marked (f : Nat → Value) (cs : Array Value) (k : Nat) : Array Value := ((List.range k).map f ++ cs.toList.drop k).toArray
theorem marked_zero (f : Nat → Value) (cs : Array Value) : marked f cs 0 = cs := by simp [marked]
theorem marked_at (f : Nat → Value) (cs : Array Value) {k : Nat} (h : k < cs.size) : ∃ u, (marked f cs k)[k]? = some u := by
  refine ⟨cs[k], ?_⟩
  simp only [marked, List.getElem?_toArray]
  rw [List.getElem?_append_right (by simp)]
  simp [h]
theorem marked_next (f : Nat → Value) (cs : Array Value) {k : Nat} (h : k < cs.size) : (marked f cs k).setIfInBounds k (f k) = marked f cs (k + 1) := by
  apply Array.ext_getElem?
  intro j
  rw [Array.getElem?_setIfInBounds]
  simp only [marked, List.getElem?_toArray, List.size_toArray, List.length_append, List.length_map, List.length_range, List.length_drop, Array.length_toList]
  by_cases hj : k = j
  · subst hj
    rw [if_pos rfl, if_pos (by omega), List.getElem?_append_left (by simp)]
    simp
  · rw [if_neg hj]
    by_cases hlt : j < k
    · rw [List.getElem?_append_left (by simpa using hlt), List.getElem?_append_left (by simp; omega)]
      simp [hlt, Nat.lt_succ_of_lt hlt]
    · rw [List.getElem?_append_right (by simp; omega), List.getElem?_append_right (by simp; omega)]
      simp only [List.length_map, List.length_range, List.getElem?_drop]
      congr 1
      omega
theorem marked_take (f : Nat → Value) (cs : Array Value) (n : Nat) : (marked f cs n).toList.take n = (List.range n).map f := by
  simp [marked]

set_option maxHeartbeats 800000 in
theorem markBoolS_any (A : Option Addr) (n c lo hi : Nat) (xs : List Value) (q : Int) (w : World) (hf : Fresh w lo hi 4 A xs) (hx : xs.length = n) (h0 : 0 ≤ q) (h1 : q ≤ 4611686018427387904) (hn : n ≤ 1048576) :
    Calls Try.prog 84 #[.slice A n c, .int .i64 q] w fun e w' => e = .returned (.int .i64 (q + n)) ∧ Span lo hi w w' ∧ Fresh w' lo hi 4 A (bits (marksB q n)) := by
  subst hx
  rcases hf with rfl | ⟨g, cs, rfl, hlo, hhi, hw, hle, htk⟩
  · go_enter Try.func84, Try.ntmps84
    go_wp2
    refine wp_loop_rounds 1 ?_
    rw [rounds_succ]
    go_wp2
    go_ret
    exact ⟨ret_of (by simp), Span.refl _ _ _, .inl (by simp [marksB, bits])⟩
  · have HT := Lib.hid htk
    clear htk
    have hm0 : Whole w g 4 (marked (fun i : Nat => .bool ((q + (i : Int)) % 3 == 0)) cs 0) := by rw [marked_zero]; exact hw
    have hgl := hw.lt
    go_enter Try.func84, Try.ntmps84
    go_wp2
    go_loopw [1, 5] (fun v i wr => ∃ k : Nat, k ≤ xs.length ∧ i = .int .i64 k ∧ v = .int .i64 (q + k) ∧ Whole wr g 4 (marked (fun i : Nat => .bool ((q + (i : Int)) % 3 == 0)) cs k) ∧ Span lo hi w wr) (fun _ i _ => xs.length - (intOf i).toNat)
    case atStart => exact ⟨0, Nat.zero_le _, rfl, by simp, hm0, Span.refl _ _ _⟩
    case round =>
      obtain ⟨k, hk, rfl, rfl, hm, hs⟩ := hrel
      clear hm0 hw
      by_cases hlt : k < xs.length
      · obtain ⟨u, hu⟩ := marked_at (fun i : Nat => .bool ((q + (i : Int)) % 3 == 0)) cs (show k < cs.size by omega)
        have hcell := (hm.cell k).trans hu
        have hfr := hm.open_ k
        have hset := hm.set_ k (.bool ((q + k) % 3 == 0))
        rw [marked_next (fun i : Nat => .bool ((q + (i : Int)) % 3 == 0)) cs (show k < cs.size by omega)] at hset
        have hs' : Span lo hi w (wr.setCell ⟨g, k, none⟩ (.bool ((q + k) % 3 == 0))) :=
          hs.trans ⟨rfl, rfl, rfl, by simp [World.setCell], fun j _ hj => Below.heap_setCell _ _ _ _ (by show j ≠ g; omega)⟩
        clear hm hu hs
        have hq0 : (0 : Int) ≤ q + k := by omega
        go_wp2
        go_roundw
        case rel => exact ⟨k + 1, by omega, by go_num, by first | exact congrArg _ (by omega) | (simp; omega), hset, hs'⟩
        case measure => simp [intOf]; omega
      · have hkn : k = xs.length := by omega
        subst hkn
        go_wp2
        go_ret
        refine ⟨rfl, hs, .inr ⟨g, _, rfl, hlo, hhi, hm, ?_, ?_⟩⟩
        · simp [bits_len, marksB_len, marked]
        · rw [bits_len, marksB_len, marked_take _ _ _]
          simp [bits, marksB]
set_option maxHeartbeats 800000 in
theorem markIntS_any (A : Option Addr) (n c lo hi : Nat) (xs : List Value) (q : Int) (w : World) (hf : Fresh w lo hi 3 A xs) (hx : xs.length = n) (h0 : 0 ≤ q) (h1 : q ≤ 4611686018427387904) (hn : n ≤ 1048576) :
    Calls Try.prog 37 #[.slice A n c, .int .i64 q] w fun e w' => e = .returned (.int .i64 (q + n)) ∧ Span lo hi w w' ∧ Fresh w' lo hi 3 A (nums (marksI q n)) := by
  subst hx
  rcases hf with rfl | ⟨g, cs, rfl, hlo, hhi, hw, hle, htk⟩
  · go_enter Try.func37, Try.ntmps37
    go_wp2
    refine wp_loop_rounds 1 ?_
    rw [rounds_succ]
    go_wp2
    go_ret
    exact ⟨ret_of (by simp), Span.refl _ _ _, .inl (by simp [marksI, nums])⟩
  · have HT := Lib.hid htk
    clear htk
    have hm0 : Whole w g 3 (marked (fun i : Nat => .int .i64 (q + (i : Int))) cs 0) := by rw [marked_zero]; exact hw
    have hgl := hw.lt
    go_enter Try.func37, Try.ntmps37
    go_wp2
    go_loopw [1, 5] (fun v i wr => ∃ k : Nat, k ≤ xs.length ∧ i = .int .i64 k ∧ v = .int .i64 (q + k) ∧ Whole wr g 3 (marked (fun i : Nat => .int .i64 (q + (i : Int))) cs k) ∧ Span lo hi w wr) (fun _ i _ => xs.length - (intOf i).toNat)
    case atStart => exact ⟨0, Nat.zero_le _, rfl, by simp, hm0, Span.refl _ _ _⟩
    case round =>
      obtain ⟨k, hk, rfl, rfl, hm, hs⟩ := hrel
      clear hm0 hw
      by_cases hlt : k < xs.length
      · obtain ⟨u, hu⟩ := marked_at (fun i : Nat => .int .i64 (q + (i : Int))) cs (show k < cs.size by omega)
        have hcell := (hm.cell k).trans hu
        have hfr := hm.open_ k
        have hset := hm.set_ k (.int .i64 (q + k))
        rw [marked_next (fun i : Nat => .int .i64 (q + (i : Int))) cs (show k < cs.size by omega)] at hset
        have hs' : Span lo hi w (wr.setCell ⟨g, k, none⟩ (.int .i64 (q + k))) :=
          hs.trans ⟨rfl, rfl, rfl, by simp [World.setCell], fun j _ hj => Below.heap_setCell _ _ _ _ (by show j ≠ g; omega)⟩
        clear hm hu hs
        have hq0 : (0 : Int) ≤ q + k := by omega
        go_wp2
        go_roundw
        case rel => exact ⟨k + 1, by omega, by go_num, by first | exact congrArg _ (by omega) | (simp; omega), hset, hs'⟩
        case measure => simp [intOf]; omega
      · have hkn : k = xs.length := by omega
        subst hkn
        go_wp2
        go_ret
        refine ⟨rfl, hs, .inr ⟨g, _, rfl, hlo, hhi, hm, ?_, ?_⟩⟩
        · simp [nums_len, marksI_len, marked]
        · rw [nums_len, marksI_len, marked_take _ _ _]
          simp [nums, marksI]

set_option maxHeartbeats 800000 in
theorem heldBoolS_any (A : Option Addr) (n c : Nat) (q : Int) (w : World) (hA : Holds w A (bits (marksB q n))) (h0 : 0 ≤ q) (h1 : q ≤ 4611686018427387904) (hn : n ≤ 1048576) :
    Calls Try.prog 89 #[.slice A n c, .int .i64 q] w fun e w' => e = .returned (.int .i64 (q + n)) ∧ w = w' := by
  have hl := marksB_len q n
  have HL := Lib.hid hl
  clear hl
  go_enter Try.func89, Try.ntmps89
  go_wp2
  go_loop [1, 5] (fun v i => ∃ k : Nat, k ≤ n ∧ i = .int .i64 k ∧ v = .int .i64 (q + k)) (fun _ i => n - (intOf i).toNat)
  case atStart => exact ⟨0, Nat.zero_le _, rfl, by simp⟩
  case round =>
    obtain ⟨k, hk, rfl, rfl⟩ := hrel
    by_cases hlt : k < n
    · obtain ⟨b, o, rfl, hb, hc⟩ := hA.look (k := k) (by rw [bits_len, HL.out]; exact hlt)
      have hv : (bits (marksB q n))[k]'(by rw [bits_len, HL.out]; exact hlt) = .bool ((q + (k : Int)) % 3 == 0) := by simp [bits, marksB]
      rw [hv] at hc
      clear hv
      have hq0 : (0 : Int) ≤ q + k := by omega
      go_wp2
      go_round
      case rel => exact ⟨k + 1, by omega, by go_num, by first | exact congrArg _ (by omega) | (simp; omega)⟩
      case measure => simp [intOf]; omega
    · have hkn : k = n := by omega
      subst hkn
      go_wp2
      go_ret
      exact ⟨rfl, rfl⟩

set_option maxHeartbeats 800000 in
theorem heldIntS_any (A : Option Addr) (n c : Nat) (q : Int) (w : World) (hA : Holds w A (nums (marksI q n))) (h0 : 0 ≤ q) (h1 : q ≤ 4611686018427387904) (hn : n ≤ 1048576) :
    Calls Try.prog 51 #[.slice A n c, .int .i64 q] w fun e w' => e = .returned (.int .i64 (q + n)) ∧ w = w' := by
  have hl := marksI_len q n
  have HL := Lib.hid hl
  clear hl
  go_enter Try.func51, Try.ntmps51
  go_wp2
  go_loop [1, 5] (fun v i => ∃ k : Nat, k ≤ n ∧ i = .int .i64 k ∧ v = .int .i64 (q + k)) (fun _ i => n - (intOf i).toNat)
  case atStart => exact ⟨0, Nat.zero_le _, rfl, by simp⟩
  case round =>
    obtain ⟨k, hk, rfl, rfl⟩ := hrel
    by_cases hlt : k < n
    · obtain ⟨b, o, rfl, hb, hc⟩ := hA.look (k := k) (by rw [nums_len, HL.out]; exact hlt)
      have hv : (nums (marksI q n))[k]'(by rw [nums_len, HL.out]; exact hlt) = .int .i64 (q + (k : Int)) := by simp [nums, marksI]
      rw [hv] at hc
      clear hv
      have hq0 : (0 : Int) ≤ q + k := by omega
      go_wp2
      go_round
      case rel => exact ⟨k + 1, by omega, by go_num, by first | exact congrArg _ (by omega) | (simp; omega)⟩
      case measure => simp [intOf]; omega
    · have hkn : k = n := by omega
      subst hkn
      go_wp2
      go_ret
      exact ⟨rfl, rfl⟩

set_option maxHeartbeats 400000 in
theorem markState_any (A : Option Addr) (n c lo hi : Nat) (xs : List Value) (t : Bool) (q : Int) (w : World) (hf : Fresh w lo hi 4 A xs) (hx : xs.length = n) (h0 : 0 ≤ q) (h1 : q ≤ 4611686018427387904) (hn : n ≤ 1048576) :
    Calls Try.prog 30 #[.agg #[.slice A n c, .bool t], .int .i64 q] w fun e w' => e = .returned (.int .i64 (q + n)) ∧ Span lo hi w w' ∧ Fresh w' lo hi 4 A (bits (marksB q n)) := by
  have HX := Lib.hid hx
  clear hx
  go_enter Try.func30, Try.ntmps30
  go_wp2_with fail
  refine (markBoolS_any A n c lo hi xs q _ (hf.alloc _) HX.out h0 h1 hn).mono ?_
  rintro e w1 ⟨rfl, hs, hf1⟩
  go_wp2
  go_ret
  exact ⟨rfl, (Span.of_below (below1 w _) lo hi).trans hs, hf1⟩

set_option maxHeartbeats 400000 in
theorem heldState_any (A : Option Addr) (n c : Nat) (t : Bool) (q : Int) (w : World) (hA : Holds w A (bits (marksB q n))) (h0 : 0 ≤ q) (h1 : q ≤ 4611686018427387904) (hn : n ≤ 1048576) :
    Calls Try.prog 38 #[.agg #[.slice A n c, .bool t], .int .i64 q] w fun e w' => e = .returned (.int .i64 (q + n)) ∧ Below w.heap.size w w' := by
  have hq0 : (0 : Int) ≤ q + n := by omega
  go_enter Try.func38, Try.ntmps38
  go_wp2_with fail
  refine (heldBoolS_any A n c q _ (hA.alloc _) h0 h1 hn).mono ?_
  rintro e w1 ⟨rfl, rfl⟩
  go_wp2
  go_ret
  exact ⟨rfl, below1 w _⟩

end Go.Proofs.Ytkocompjjogciaa

namespace Go.Proofs.Ytkocompjjogciaa
open Go.RowKit

/-- What a call hands back that makes a list of truth values. -/
def BitsPost (bs : List Bool) (w : World) (e : Ending) (w' : World) : Prop :=
  ∃ (A : Option Addr) (c : Nat), e = .returned (.slice A bs.length c) ∧ Fresh w' w.heap.size w'.heap.size 4 A (bits bs) ∧ Below w.heap.size w w'
/-- What a call hands back that makes a state and tells whether it did. -/
def StatePost (bs : List Bool) (t ok : Bool) (w : World) (e : Ending) (w' : World) : Prop :=
  ∃ (A : Option Addr) (c : Nat), e = .returned (.tuple #[.agg #[.slice A bs.length c, .bool t], .bool ok]) ∧ Fresh w' w.heap.size w'.heap.size 4 A (bits bs) ∧ Below w.heap.size w w'

theorem bits_one (bs : List Bool) : ∀ u ∈ bits bs, u.oneCell' = true := by
  intro v hv
  simp only [bits, List.mem_map] at hv
  obtain ⟨x, -, rfl⟩ := hv
  rfl

set_option maxHeartbeats 800000 in
set_option maxRecDepth 100000 in
theorem cloneB_any (b o n d : Nat) (bs : List Bool) (w : World) (hB : ∀ j u, (bits bs)[j]? = some u → w.cell? ⟨b, o + j, none⟩ = some u) (hy : bs.length = n) (hn : n ≤ 1048576) :
    Calls Try.prog 151 #[.slice (some ⟨b, o, none⟩) n d] w (BitsPost bs w) := by
  subst hy
  obtain ⟨i0, hi, hz0, hz1, hz2⟩ := info_parts info_bool
  have HI := Lib.hid hi
  have HZ0 := Lib.hid hz0
  have HZ1 := Lib.hid hz1
  have HZ2 := Lib.hid hz2
  have HB := Lib.hid hB
  clear hi hz0 hz1 hz2 hB
  go_enter Try.func151, Try.ntmps151
  have hnil := fun (W : World) => Lib.run_eql_slice_nil (P := Try.prog) W 25 4 (some ⟨b, o, none⟩) bs.length d 0 0 Try.underlying25
  have HOWN := Lib.hid (World.ownsRow_made (base := w.heap.size) (e := 4) (size := 1) w #[] 0 (Nat.le_refl _) (by unfold maxLen; omega) rfl)
  have hnews : ∀ j u, (bits bs)[j]? = some u → (w.alloc (.cells #[] 4)).cell? ((⟨b, o, none⟩ : Addr).add j) = some u := fun j u hu => by
    rw [show (⟨b, o, none⟩ : Addr).add j = ⟨b, o + j, none⟩ from by unfold Addr.add; split <;> simp_all]
    have h := HB.out j u hu
    rw [World.cell?_alloc_lt _ _ _ (block_lt_of_cell h)]
    exact h
  have HNEWS := Lib.hid hnews
  have HLEN := Lib.hid (show (bits bs).length = bs.length * 1 by rw [bits_len, Nat.mul_one])
  have HONE := Lib.hid (bits_one bs)
  have HMAX := Lib.hid (show 0 + bs.length ≤ maxLen by unfold maxLen; omega)
  have HBYT := Lib.hid (show (0 + bs.length) * 1 ≤ 140737488355328 by omega)
  clear hnews
  go_wp2_with (at_builtin; refine wpList_append_own _ rfl (.tmp 5) (.tmp 6) 25 rfl w.heap.size 4 i0 (.bool false) 1 1 Try.underlying25 HI.out HZ0.out HZ1.out HZ2.out rfl (by decide) _ 0 [] rfl HOWN.out ⟨b, o, none⟩ bs.length d (bits bs) rfl HLEN.out HNEWS.out HONE.out HMAX.out HBYT.out (by simp) ?_; intro v' w1 hown1 hg1 _)
  go_ret
  simp only [Nat.zero_add, List.nil_append] at hown1
  obtain ⟨A, c, hv, hf⟩ := Fresh.of_own hown1 (Nat.le_refl _)
  refine ⟨A, c, by rw [← hv]; rfl, hf, ?_⟩
  exact (below1 w _).grown hg1 (by simp) (fun k hk => Nat.le_of_eq (Option.some.inj (show some w.heap.size = some k from hk)))

/-- So many people, none over. -/
def falses (n : Nat) : List Bool := List.replicate n false
theorem falses_len (n : Nat) : (falses n).length = n := by simp [falses]

set_option maxHeartbeats 800000 in
set_option maxRecDepth 100000 in
theorem paFirst_any (A : Option Addr) (n c : Nat) (s : Int) (w : World) (hn : n ≤ 1048576) :
    Calls Try.prog 101 #[.agg #[.slice A n c, .int .i64 s]] w fun e w' => e = .returned (.agg #[.slice (some ⟨w.heap.size + 1 + 1, 0, none⟩) n n, .bool false]) ∧ Whole w' (w.heap.size + 1 + 1) 4 (bits (falses n)).toArray ∧ Below w.heap.size w w' := by
  obtain ⟨i0, hi, hz0, hz1, hz2⟩ := info_parts info_bool
  have hmk : ∀ W : World, (Instr.makeSlice 25 (.int .i64 (n : Int)) (.int .i64 (n : Int))).run Try.prog W = .ok (.slice (some ⟨W.heap.size, 0, none⟩) n n) (W.alloc (.cells (bits (falses n)).toArray 4)) := by
    intro W
    have h := run_make (P := Try.prog) W 25 4 i0 _ Try.underlying25 hi hz0 .i64 .i64 n n (by omega) (by omega) (by rw [hz2]; omega) (by omega)
    simp only [Int.toNat_natCast, hz1, made_falses] at h
    rw [h]
    rfl
  clear hi hz0 hz1 hz2
  go_enter Try.func101, Try.ntmps101
  go_wp2
  go_returns
  have hw := Whole.fresh ((w.alloc (.cells #[.slice A n c, .int .i64 s] 37)).alloc (.cells #[.slice (some ⟨w.heap.size + 1 + 1, 0, none⟩) n n, .bool false] 38)) 4 (bits (falses n)).toArray
  simp only [World.size_alloc] at hw
  exact ⟨rfl, hw, below3 w _ _ _⟩

/-- The places of the first state: none where there is no party. -/
def firstBits (xs : List Int) (n : Nat) (s : Int) : List Bool := if isParty xs s then falses n else []
theorem firstBits_le (xs : List Int) (n : Nat) (s : Int) : (firstBits xs n s).length ≤ n := by
  rw [firstBits]
  split
  · rw [falses_len]; exact Nat.le_refl _
  · simp

end Go.Proofs.Ytkocompjjogciaa

namespace Go.Proofs.Ytkocompjjogciaa
open Go.RowKit

/-- What a call hands back that makes a state. -/
def StateRes (bs : List Bool) (t : Bool) (w : World) (e : Ending) (w' : World) : Prop :=
  ∃ (A : Option Addr) (c : Nat), e = .returned (.agg #[.slice A bs.length c, .bool t]) ∧ Fresh w' w.heap.size w'.heap.size 4 A (bits bs) ∧ Below w.heap.size w w'

theorem Fresh.set_out {w : World} {lo hi b o : Nat} {ty : TypeId} {A : Option Addr} {xs : List Value} {u : Value} (hf : Fresh w lo hi ty A xs) (hb : b < lo ∨ hi ≤ b) : Fresh (w.setCell ⟨b, o, none⟩ u) lo hi ty A xs := by
  rcases hf with rfl | ⟨g, cs, hA, h1, h2, hw, h3, h4⟩
  · exact .inl rfl
  · exact .inr ⟨g, cs, hA, h1, h2, hw.off (by omega), h3, h4⟩

theorem elem_eight (W : World) : (sizeOf (Try.prog.elem 109)).run Try.prog W = .ok 1 W := by kernel_rfl
theorem len_eight : Try.prog.arrayLen 109 = 8 := by kernel_rfl
theorem arr_eight : Try.prog.underlying 109 = some (.array (Try.prog.arrayLen 109) (Try.prog.elem 109)) := by kernel_rfl
theorem slice_eight (W : World) (g n : Nat) (h : n ≤ 8) : (Instr.sliceAt 109 (.pointer (some ⟨g, 0, none⟩)) none (some (.int .i64 (n : Int))) none).run Try.prog W = .ok (.slice (some ⟨g, 0, none⟩) n 8) W := by
  rw [run_sliceAt_array_h W 109 _ arr_eight .i64 (n : Int) (by omega) (by rw [len_eight]; omega), elem_eight]
  simp [slicedAt, len_eight, Result.andThen, Addr.add]

set_option maxHeartbeats 800000 in
set_option maxRecDepth 100000 in
theorem placeState_any (bs : List Bool) (t : Bool) (n : Nat) (w : World) (hy : bs.length = n) (hn : n ≤ 8) :
    Calls Try.prog 88 #[.agg (placeCells bs t), .int .i64 n] w (StateRes bs t w) := by
  subst hy
  have hp := (Whole.fresh w 113 (placeCells bs t)).alloc (.cells #[.slice none 0 0, .bool false] 38)
  have hr := Whole.fresh (w.alloc (.cells (placeCells bs t) 113)) 38 #[.slice none 0 0, .bool false]
  rw [World.size_alloc] at hr
  have hb2 := below2 w (.cells (placeCells bs t) 113) (.cells #[.slice none 0 0, .bool false] 38)
  have ht8 := (hp.cell 8).trans (show (placeCells bs t)[8]? = some (.bool t) from rfl)
  have hB : ∀ j u, (bits bs)[j]? = some u → ((w.alloc (.cells (placeCells bs t) 113)).alloc (.cells #[.slice none 0 0, .bool false] 38)).cell? ⟨w.heap.size, 0 + j, none⟩ = some u := fun j u hu => by
    have hj : j < bs.length := by have := (List.getElem?_eq_some_iff.1 hu).1; rwa [bits_len] at this
    rw [Nat.zero_add, hp.cell j, place_at bs t (by omega), ← hu]
    simp [bits, hj]
  have HB := Lib.hid hB
  clear hB
  have hsl := fun W : World => slice_eight W w.heap.size bs.length hn
  go_enter Try.func88, Try.ntmps88
  go_wp2
  go_region_held3 (fun w' => w'.cell? ⟨w.heap.size, 8, none⟩ = some (.bool t)) (go_keep)
    (first | (go_at_call 151; refine (cloneB_any w.heap.size 0 bs.length 8 bs _ (by exact HB.out) rfl (by omega)).mono ?_; rintro e w1 ⟨A, c, rfl, hf, hb⟩; have k8 := ((hp.drew.below hb).cell 8).trans (show (placeCells bs t)[8]? = some (.bool t) from rfl); obtain ⟨r0, r1, f0, f1⟩ := (hr.drew.below hb).two))
  have hlw : w.heap.size + 1 + 1 ≤ w1.heap.size := by have := hb.size; simpa using this
  have HF := Lib.hid ((hf.set_out (b := w.heap.size + 1) (o := 0) (u := .slice A bs.length c) (.inl (by simp))).set_out (b := w.heap.size + 1) (o := 1) (u := .bool t) (.inl (by simp)))
  have HBW := Lib.hid (below_then hb2.drew hb (by simp; omega))
  clear hf hb
  go_wp2
  refine bodyPost_ret (v := .agg #[.slice A bs.length c, .bool t]) (by simp [results, Try.results88, go_sem, r0, r1]) rfl ⟨A, c, rfl, ?_, ?_⟩
  · have h := HF.out.more (lo' := w.heap.size) (hi' := w1.heap.size) (by simp; omega) (Nat.le_refl _)
    simpa [World.setCell] using h
  · exact below_set (below_set HBW.out (by omega)) (by omega)

theorem falses_get (n i : Nat) : (falses n).getD i false = false := by
  simp only [falses, List.getD_eq_getElem?_getD, List.getElem?_replicate]
  split <;> rfl
theorem place_falses (n : Nat) : placeCells (falses n) false = placeCells [] false := by
  simp only [placeCells, falses_get]
  rfl

theorem placeState_none (n : Nat) (w : World) (hn : n ≤ 8) :
    Calls Try.prog 88 #[.agg #[.bool false, .bool false, .bool false, .bool false, .bool false, .bool false, .bool false, .bool false, .bool false], .int .i64 n] w (StateRes (falses n) false w) := by
  have h := placeState_any (falses n) false n w (falses_len n) hn
  rw [place_falses] at h
  exact h

end Go.Proofs.Ytkocompjjogciaa

namespace Go.Proofs.Ytkocompjjogciaa
open Go.RowKit

/-- Behind such a statement: the struct lies in block g, its list in blocks from lo on and before hi. -/
def ResMid (ty ety : TypeId) (mk : Option Addr → Nat → Array Value) (xs : List Value) (ok : Bool) (W : World) (v u : Value) (wx : World) : Prop :=
  ∃ (g : Nat) (A : Option Addr) (q lo hi : Nat), v = .pointer (some ⟨g, 0, none⟩) ∧ u = .bool ok ∧ W.heap.size ≤ g ∧ g < wx.heap.size ∧ W.heap.size ≤ lo ∧ (g < lo ∨ hi ≤ g) ∧ hi ≤ wx.heap.size ∧ Whole wx g ty (mk A q) ∧ Fresh wx lo hi ety A xs ∧ Below W.heap.size W wx
theorem ResMid.last {ty ety : TypeId} {mk : Option Addr → Nat → Array Value} {xs : List Value} {ok : Bool} {W w : World} {A : Option Addr} {q lo : Nat} (hc : Below W.heap.size W w) (hl : W.heap.size ≤ lo) (hF : Fresh w lo w.heap.size ety A xs) :
    ResMid ty ety mk xs ok W (.pointer (some ⟨w.heap.size, 0, none⟩)) (.bool ok) (w.alloc (.cells (mk A q) ty)) :=
  ⟨_, A, q, lo, w.heap.size, rfl, rfl, hc.size, by simp, hl, .inr (Nat.le_refl _), by simp, Whole.fresh _ _ _, hF.alloc _, hc.alloc hc.size _⟩
theorem ResMid.first {ty ety : TypeId} {mk : Option Addr → Nat → Array Value} {xs : List Value} {ok : Bool} {W w : World} {A : Option Addr} {q lo g : Nat} {a b c d : Value} (hc : Below W.heap.size W w) (hl : W.heap.size ≤ lo) (hF : Fresh w lo w.heap.size ety A xs) (hg : W.heap.size ≤ g) (hgl : g < lo) (hw : Whole w g ty #[a, b]) (hm : mk A q = #[c, d]) :
    ResMid ty ety mk xs ok W (.pointer (some ⟨g, 0, none⟩)) (.bool ok) ((w.setCell ⟨g, 0, none⟩ c).setCell ⟨g, 1, none⟩ d) := by
  have h := hw.lt
  refine ⟨g, A, q, lo, w.heap.size, rfl, rfl, hg, by simpa [World.setCell] using h, hl, .inl hgl, by simp [World.setCell], ?_, (hF.set_out (.inl hgl)).set_out (.inl hgl), below_set (below_set hc hg) hg⟩
  rw [hm]
  exact (hw.set_ 0 c).set_ 1 d
end Go.Proofs.Ytkocompjjogciaa

namespace Go.Proofs.Ytkocompjjogciaa
open Go.RowKit

theorem info_byte : (Try.prog.info? 5).map (fun i => (i.zero, i.size, i.bytes)) = some (some (.int .u8 0), 1, 1) := by kernel_rfl

theorem own_slice {w : World} {base : Nat} {e : TypeId} {size : Nat} {v : Value} {n : Nat} {xs : List Value} (h : w.ownsRow base e size v (n + 1) xs) : ∃ g cap, v = .slice (some ⟨g, 0, none⟩) (n + 1) cap := by
  obtain ⟨-, ⟨-, h⟩ | ⟨g, cap, -, hv, -⟩⟩ := h
  · omega
  · exact ⟨g, cap, hv⟩
theorem cells_fresh (w : World) (ty : TypeId) (cs : Array Value) : ∀ j u, cs.toList[j]? = some u → (w.alloc (.cells cs ty)).cell? ((⟨w.heap.size, 0, none⟩ : Addr).add j) = some u := fun j u hu => by
  rw [show (⟨w.heap.size, 0, none⟩ : Addr).add j = ⟨w.heap.size, j, none⟩ from by unfold Addr.add; split <;> simp_all, (Whole.fresh w ty cs).cell j]
  simpa using hu

end Go.Proofs.Ytkocompjjogciaa

namespace Go.Proofs.Ytkocompjjogciaa
open Go.RowKit

/-- What a call hands back that makes a list to which more can be appended. -/
def OwnPost (xs : List Int) (w : World) (e : Ending) (w' : World) : Prop :=
  ∃ (A : Option Addr) (c : Nat), e = .returned (.slice A xs.length c) ∧ w'.ownsRow w.heap.size 3 1 (.slice A xs.length c) xs.length (nums xs) ∧ Below w.heap.size w w'
theorem ints_one (xs : List Int) : ∀ u ∈ nums xs, u.oneCell' = true := by
  intro v hv
  simp only [nums, List.mem_map] at hv
  obtain ⟨x, -, rfl⟩ := hv
  rfl
theorem own_some {w : World} {base : Nat} {e : TypeId} {A : Option Addr} {n c : Nat} {xs : List Value} (h : w.ownsRow base e 1 (.slice A n c) n xs) : (A = none ∧ n = 0 ∧ c = 0) ∨ ∃ g, A = some ⟨g, 0, none⟩ ∧ n ≤ c := by
  obtain ⟨-, ⟨hv, hn⟩ | ⟨g, cap, cur, hv, -, -, h1, -⟩⟩ := h
  · obtain ⟨rfl, -, rfl⟩ : A = none ∧ n = 0 ∧ c = 0 := by simpa using hv
    exact .inl ⟨rfl, hn, rfl⟩
  · obtain ⟨rfl, -, rfl⟩ : A = some ⟨g, 0, none⟩ ∧ n = n ∧ c = cap := by simpa using hv
    exact .inr ⟨g, rfl, h1⟩

theorem own_shape {w : World} {base : Nat} {e : TypeId} {v : Value} {n : Nat} {xs : List Value} (h : w.ownsRow base e 1 v n xs) : ∃ (A : Option Addr) (c : Nat), v = .slice A n c := by
  obtain ⟨-, ⟨rfl, rfl⟩ | ⟨g, cap, cur, hv, -⟩⟩ := h
  · exact ⟨none, 0, rfl⟩
  · exact ⟨_, _, hv⟩

set_option maxHeartbeats 800000 in
set_option maxRecDepth 100000 in
theorem l1Own_any (A : Option Addr) (n c : Nat) (xs : List Int) (w : World) (hA : Holds w A (nums xs)) (hx : xs.length = n) (hn : n ≤ 1048576) (hc : A = none → c = 0) :
    Calls Try.prog 173 #[.slice A n c] w (OwnPost xs w) := by
  subst hx
  obtain ⟨i0, hi, hz0, hz1, hz2⟩ := info_parts info_int
  have HI := Lib.hid hi
  have HZ0 := Lib.hid hz0
  have HZ1 := Lib.hid hz1
  have HZ2 := Lib.hid hz2
  have HOWN := Lib.hid (World.ownsRow_made (base := w.heap.size) (e := 3) (size := 1) w #[] 0 (Nat.le_refl _) (by unfold maxLen; omega) rfl)
  have HB := Lib.hid (below1 w (.cells #[] 3))
  clear hi hz0 hz1 hz2
  cases A with
  | none =>
    have h0 : xs = [] := by
      rcases hA with h | ⟨b, o, h, -⟩
      · simpa [nums] using h
      · cases h
    subst h0
    obtain rfl := hc rfl
    go_enter Try.func173, Try.ntmps173
    go_wp2_with (at_builtin; refine wpList_append_own_none rfl (.tmp 3) (.tmp 4) 22 rfl w.heap.size 3 i0 1 Try.underlying22 HI.out _ 0 [] rfl HOWN.out rfl ?_)
    go_ret
    exact ⟨_, 0, rfl, HOWN.out, HB.out⟩
  | some ad =>
    have hnews : ∀ j u, (nums xs)[j]? = some u → (w.alloc (.cells #[] 3)).cell? (ad.add j) = some u := fun j u hu => by
      rcases hA with h | ⟨b, o, h, hb, hcell⟩
      · rw [h] at hu; simp at hu
      · obtain rfl : ad = ⟨b, o, none⟩ := by simpa using h
        rw [show (⟨b, o, none⟩ : Addr).add j = ⟨b, o + j, none⟩ from by unfold Addr.add; split <;> simp_all, World.cell?_alloc_lt _ _ _ hb]
        exact hcell j u hu
    have HNEWS := Lib.hid hnews
    have HLEN := Lib.hid (show (nums xs).length = xs.length * 1 by rw [nums_len, Nat.mul_one])
    have HONE := Lib.hid (ints_one xs)
    have HMAX := Lib.hid (show 0 + xs.length ≤ maxLen by unfold maxLen; omega)
    have HBYT := Lib.hid (show (0 + xs.length) * 8 ≤ 140737488355328 by omega)
    clear hnews hc
    go_enter Try.func173, Try.ntmps173
    go_wp2_with (at_builtin; refine wpList_append_own _ rfl (.tmp 3) (.tmp 4) 22 rfl w.heap.size 3 i0 (.int .i64 0) 1 8 Try.underlying22 HI.out HZ0.out HZ1.out HZ2.out rfl (by decide) _ 0 [] rfl HOWN.out ad xs.length c (nums xs) rfl HLEN.out HNEWS.out HONE.out HMAX.out HBYT.out (by simp) ?_; intro v' w1 hown1 hg1 _)
    go_ret
    simp only [Nat.zero_add, List.nil_append] at hown1
    have hbe := HB.out.grown hg1 (by simp) (fun k hk => Nat.le_of_eq (Option.some.inj (show some w.heap.size = some k from hk)))
    obtain ⟨A1, c1, rfl⟩ := own_shape hown1
    exact ⟨A1, c1, rfl, hown1, hbe⟩
end Go.Proofs.Ytkocompjjogciaa

namespace Go.Proofs.Ytkocompjjogciaa
open Go.RowKit

/-- What a call hands back that makes a list of numbers. -/
def NumsPost (bs : List Int) (w : World) (e : Ending) (w' : World) : Prop :=
  ∃ (A : Option Addr) (c : Nat), e = .returned (.slice A bs.length c) ∧ Fresh w' w.heap.size w'.heap.size 3 A (nums bs) ∧ Below w.heap.size w w'
/-- What a call hands back that makes a party and tells whether it did. -/
def PartyPost (xs : List Int) (s : Int) (ok : Bool) (w : World) (e : Ending) (w' : World) : Prop :=
  ∃ (A : Option Addr) (c : Nat), e = .returned (.tuple #[.agg #[.slice A xs.length c, .int .i64 s], .bool ok]) ∧ Fresh w' w.heap.size w'.heap.size 3 A (nums xs) ∧ Below w.heap.size w w'

theorem nums_one (bs : List Int) : ∀ u ∈ nums bs, u.oneCell' = true := by
  intro v hv
  simp only [nums, List.mem_map] at hv
  obtain ⟨x, -, rfl⟩ := hv
  rfl

set_option maxHeartbeats 800000 in
set_option maxRecDepth 100000 in
theorem cloneI_any (b o n d : Nat) (bs : List Int) (w : World) (hB : ∀ j u, (nums bs)[j]? = some u → w.cell? ⟨b, o + j, none⟩ = some u) (hy : bs.length = n) (hn : n ≤ 1048576) :
    Calls Try.prog 158 #[.slice (some ⟨b, o, none⟩) n d] w (NumsPost bs w) := by
  subst hy
  obtain ⟨i0, hi, hz0, hz1, hz2⟩ := info_parts info_int
  have HI := Lib.hid hi
  have HZ0 := Lib.hid hz0
  have HZ1 := Lib.hid hz1
  have HZ2 := Lib.hid hz2
  have HB := Lib.hid hB
  clear hi hz0 hz1 hz2 hB
  go_enter Try.func158, Try.ntmps158
  have hnil := fun (W : World) => Lib.run_eql_slice_nil (P := Try.prog) W 22 3 (some ⟨b, o, none⟩) bs.length d 0 0 Try.underlying22
  have HOWN := Lib.hid (World.ownsRow_made (base := w.heap.size) (e := 3) (size := 1) w #[] 0 (Nat.le_refl _) (by unfold maxLen; omega) rfl)
  have hnews : ∀ j u, (nums bs)[j]? = some u → (w.alloc (.cells #[] 3)).cell? ((⟨b, o, none⟩ : Addr).add j) = some u := fun j u hu => by
    rw [show (⟨b, o, none⟩ : Addr).add j = ⟨b, o + j, none⟩ from by unfold Addr.add; split <;> simp_all]
    have h := HB.out j u hu
    rw [World.cell?_alloc_lt _ _ _ (block_lt_of_cell h)]
    exact h
  have HNEWS := Lib.hid hnews
  have HLEN := Lib.hid (show (nums bs).length = bs.length * 1 by rw [nums_len, Nat.mul_one])
  have HONE := Lib.hid (nums_one bs)
  have HMAX := Lib.hid (show 0 + bs.length ≤ maxLen by unfold maxLen; omega)
  have HBYT := Lib.hid (show (0 + bs.length) * 8 ≤ 140737488355328 by omega)
  clear hnews
  go_wp2_with (at_builtin; refine wpList_append_own _ rfl (.tmp 5) (.tmp 6) 22 rfl w.heap.size 3 i0 (.int .i64 0) 1 8 Try.underlying22 HI.out HZ0.out HZ1.out HZ2.out rfl (by decide) _ 0 [] rfl HOWN.out ⟨b, o, none⟩ bs.length d (nums bs) rfl HLEN.out HNEWS.out HONE.out HMAX.out HBYT.out (by simp) ?_; intro v' w1 hown1 hg1 _)
  go_ret
  simp only [Nat.zero_add, List.nil_append] at hown1
  obtain ⟨A, c, hv, hf⟩ := Fresh.of_own hown1 (Nat.le_refl _)
  refine ⟨A, c, by rw [← hv]; rfl, hf, ?_⟩
  exact (below1 w _).grown hg1 (by simp) (fun k hk => Nat.le_of_eq (Option.some.inj (show some w.heap.size = some k from hk)))

/-- The times, each so many times as great. -/
def times (xs : List Int) (k : Int) : List Int := xs.map (· * k)
theorem times_len (xs : List Int) (k : Int) : (times xs k).length = xs.length := by simp [times]
def slowOk (xs : List Int) (s k : Int) : Bool := isParty xs s && (within k 1 1000 && isParty (times xs k) s)
def slowXs (xs : List Int) (s k : Int) : List Int := if slowOk xs s k then times xs k else []
def slowSeats (xs : List Int) (s k : Int) : Int := if slowOk xs s k then s else 0
theorem slow_of {xs : List Int} {s k : Int} {x : Bool} (h1 : isParty xs s = true) (h2 : within k 1 1000 = true) (h3 : isParty (times xs k) s = x) : slowOk xs s k = x := by simp [slowOk, h1, h2, h3]
theorem slowXs_le (xs : List Int) (s k : Int) : (slowXs xs s k).length ≤ xs.length := by
  rw [slowXs]
  split
  · rw [times_len]; exact Nat.le_refl _
  · simp
theorem slow_no {xs : List Int} {s k : Int} (h : slowOk xs s k = false) : slowXs xs s k = [] ∧ slowSeats xs s k = 0 := by simp [slowXs, slowSeats, h]
theorem slow_yes {xs : List Int} {s k : Int} (h : slowOk xs s k = true) : slowXs xs s k = times xs k ∧ slowSeats xs s k = s := by simp [slowXs, slowSeats, h]
theorem party_all {xs : List Int} {s : Int} (h : isParty xs s = true) : ∀ x ∈ xs, 1 ≤ x ∧ x ≤ 1000 := by
  simp only [isParty, Bool.and_eq_true] at h
  exact (allIn_iff _ _ _).1 h.2.1
theorem times_next {xs : List Int} {k : Int} {j : Nat} (hj : j < xs.length) : nums (times (xs.take j) k) ++ [.int .i64 (xs[j] * k)] = nums (times (xs.take (j + 1)) k) := by
  rw [List.take_succ_eq_append_getElem hj]
  simp only [nums, times, List.map_append, List.map_cons, List.map_nil]
theorem slow_iff {xs : List Int} {s k : Int} (hp : isParty xs s = true) (hk : 1 ≤ k) : slowOk xs s k = decide (mostOf xs ≤ 1000 / k) := by
  have hall := party_all hp
  have hne : xs ≠ [] := by
    rintro rfl
    simp [isParty, within] at hp
  have hd : ∀ x : Int, x ≤ 1000 / k ↔ x * k ≤ 1000 := fun x => Int.le_ediv_iff_mul_le (by omega)
  rw [Bool.eq_iff_iff, decide_eq_true_eq, mostOf_le hne]
  simp only [slowOk, hp, Bool.true_and, Bool.and_eq_true]
  constructor
  · rintro ⟨-, h⟩ x hx
    have := party_all h (x * k) (List.mem_map_of_mem hx)
    exact (hd x).2 this.2
  · intro h
    have hk2 : k ≤ 1000 := by
      obtain ⟨y, hy⟩ := List.exists_mem_of_ne_nil _ hne
      have h1 := (hd y).1 (h y hy)
      have h2 := (hall y hy).1
      have h3 : 1 * k ≤ y * k := Int.mul_le_mul_of_nonneg_right h2 (by omega)
      omega
    refine ⟨within_yes hk hk2, ?_⟩
    simp only [isParty, Bool.and_eq_true] at hp ⊢
    refine ⟨by rw [times_len]; exact hp.1, (allIn_iff _ _ _).2 fun y hy => ?_, hp.2.2⟩
    simp only [times, List.mem_map] at hy
    obtain ⟨x, hx, rfl⟩ := hy
    have h1 := (hd x).1 (h x hx)
    have h2 := (hall x hx).1
    have h3 : 1 * 1 ≤ x * k := Int.mul_le_mul h2 hk (by omega) (by omega)
    exact ⟨by omega, h1⟩

end Go.Proofs.Ytkocompjjogciaa

namespace Go.Proofs.Ytkocompjjogciaa
open Go.RowKit

/-- append onto a list of the call's own, as a step of a region that draws its order; nothing may be appended too. -/
theorem step_append_mine {P : Program} {ops : Array Oper} {o : Oper} {a : Act} {w : World} {K : Act → World → Prop} {Q : Exit → Act → World → Prop} {E : Prop}
    (hg : o.guard = none) (s x : Operand) (t : TypeId) (hop : o.op = Op.call { callee := Callee.builtin Builtin.append, args := #[s, x], argTypes := #[t, t] })
    (base : Nat) (e : TypeId) (i : TypeInfo) (z : Value) (size bytes : Nat) (h1 : P.underlying t = some (.slice e)) (h2 : P.info? e = some i) (h3 : i.zero = some z) (h4 : i.size = size) (h5 : i.bytes = bytes) (h6 : z.cells.size = size) (h7 : 0 < size)
    (v : Value) (n : Nat) (xs : List Value) (hs : a.eval s = v) (hown : w.ownsRow base e size v n xs)
    (ad : Addr) (m c : Nat) (news : List Value) (hx : a.eval x = .slice (some ad) m c) (hn : news.length = m * size) (hc : ∀ j u, news[j]? = some u → w.cell? (ad.add j) = some u) (h1c : ∀ u ∈ news, u.oneCell' = true)
    (b1 : n + m ≤ maxLen) (b2 : (n + m) * bytes ≤ 140737488355328) (b3 : base ≤ w.heap.size)
    (hK : ∀ v' w', w'.ownsRow base e size v' (n + m) (xs ++ news) → w.grownBy w' v.ownBlock → K (a.put o.dst v') w') :
    if Region.wanted o (yielded ops a.tmps) = true then Oper.wp P o a w K Q else E := by
  have hw : Region.wanted o (yielded ops a.tmps) = true := by simp [Region.wanted, hg]
  rw [if_pos hw]
  obtain ⟨v', w', hrun, r1, r2, _⟩ := run_append_own (P := P) w base t o.type e i z size bytes h1 h2 h3 h4 h5 h6 h7 v n xs hown ad m c news hn hc h1c b1 b2 b3
  unfold Oper.wp
  simp [execOp, hop, resolve, invoke, builtin, hs, hx, hrun, Result.andThen]
  exact hK v' w' r1 r2

/-- Whether there is a party without that person. -/
def dropOk (xs : List Int) (s k : Int) : Bool := isParty xs s && (within k 0 (xs.length - 1) && !decide ((xs.length : Int) = 1))
/-- The times without that person's. -/
def lessOne (xs : List Int) (k : Nat) : List Int := xs.take k ++ xs.drop (k + 1)
def dropXs (xs : List Int) (s k : Int) : List Int := if dropOk xs s k then lessOne xs k.toNat else []
def dropSeats (xs : List Int) (s k : Int) : Int := if dropOk xs s k then s else 0
theorem lessOne_le (xs : List Int) (k : Nat) : (lessOne xs k).length ≤ xs.length := by
  simp only [lessOne, List.length_append, List.length_take, List.length_drop]
  omega
theorem dropXs_le (xs : List Int) (s k : Int) : (dropXs xs s k).length ≤ xs.length := by
  rw [dropXs]
  split
  · exact lessOne_le _ _
  · simp
theorem drop_no {xs : List Int} {s k : Int} (h : dropOk xs s k = false) : dropXs xs s k = [] ∧ dropSeats xs s k = 0 := by simp [dropXs, dropSeats, h]
theorem drop_yes {xs : List Int} {s k : Int} (h : dropOk xs s k = true) : dropXs xs s k = lessOne xs k.toNat ∧ dropSeats xs s k = s := by simp [dropXs, dropSeats, h]
/-- Where the list behind a place lies: at the list's own address where no room is left behind that place. -/
theorem tail_at {w : World} {b o n c k : Nat} {xs : List Int} (hc : ∀ j u, (nums xs)[j]? = some u → w.cell? ⟨b, o + j, none⟩ = some u) (hx : xs.length = n) (hn : n ≤ c) :
    ∃ d, (if c = k + 1 then some (⟨b, o, none⟩ : Addr) else some ⟨b, o + (k + 1), none⟩) = some ⟨b, d, none⟩ ∧ Hid (∀ j u, (nums (xs.drop (k + 1)))[j]? = some u → w.cell? ⟨b, d + j, none⟩ = some u) := by
  by_cases h : c = k + 1
  · refine ⟨o, by simp [h], fun j u hu => ?_⟩
    have h0 : xs.drop (k + 1) = [] := List.drop_eq_nil_of_le (by omega)
    rw [h0] at hu
    simp [nums] at hu
  · refine ⟨o + (k + 1), by simp [h], fun j u hu => ?_⟩
    have := hc (k + 1 + j) u (by simpa [nums, List.getElem?_map, List.getElem?_drop] using hu)
    rw [show o + (k + 1) + j = o + (k + 1 + j) by omega]
    exact this
theorem head_at {w : World} {b o k : Nat} {xs : List Int} (hb : b < w.heap.size) (hc : ∀ j u, (nums xs)[j]? = some u → w.cell? ⟨b, o + j, none⟩ = some u) : Holds w (some ⟨b, o, none⟩) (nums (xs.take k)) := by
  refine .inr ⟨b, o, rfl, hb, fun j u hu => hc j u ?_⟩
  simp only [nums, List.getElem?_map, List.getElem?_take] at hu ⊢
  split at hu
  · exact hu
  · simp at hu

theorem dropOk_iff {xs : List Int} {s k : Int} : dropOk xs s k = true ↔ isParty xs s = true ∧ 0 ≤ k ∧ k < xs.length ∧ 2 ≤ xs.length := by
  simp only [dropOk, Bool.and_eq_true, Bool.not_eq_true', decide_eq_false_iff_not, within_iff]
  constructor
  · rintro ⟨h, h1, h2⟩
    exact ⟨h, by omega, by omega, by omega⟩
  · rintro ⟨h, h1, h2, h3⟩
    exact ⟨h, by omega, by omega⟩
end Go.Proofs.Ytkocompjjogciaa

namespace Go.Proofs.Ytkocompjjogciaa
open Go.RowKit

/-- One list among others: where it lies, its length, its room, its numbers. -/
structure RowV where
  A : Option Addr
  n : Nat
  c : Nat
  xs : List Int
def RowV.val (r : RowV) : Value := .slice r.A r.n r.c
def rowVals (rs : List RowV) : List Value := rs.map RowV.val
def rowNums (rs : List RowV) : List (List Int) := rs.map RowV.xs
theorem rowVals_len (rs : List RowV) : (rowVals rs).length = rs.length := by simp [rowVals]
theorem rowNums_len (rs : List RowV) : (rowNums rs).length = rs.length := by simp [rowNums]
def RowOk (w : World) (r : RowV) : Prop := Holds w r.A (nums r.xs) ∧ r.xs.length = r.n ∧ r.n ≤ 9223372036854775807
/-- From A on the world holds these lists. -/
def Grid (w : World) (A : Option Addr) (rs : List RowV) : Prop := Holds w A (rowVals rs) ∧ ∀ r ∈ rs, RowOk w r
theorem RowOk.below {w w' : World} {r : RowV} (h : RowOk w r) (hb : Below w.heap.size w w') : RowOk w' r := ⟨h.1.below hb, h.2⟩
theorem Grid.below {w w' : World} {A : Option Addr} {rs : List RowV} (h : Grid w A rs) (hb : Below w.heap.size w w') : Grid w' A rs := ⟨h.1.below hb, fun r hr => (h.2 r hr).below hb⟩
theorem Grid.alloc {w : World} {A : Option Addr} {rs : List RowV} (h : Grid w A rs) (o : Obj) : Grid (w.alloc o) A rs := h.below (below1 w o)
theorem Grid.drew {w : World} {A : Option Addr} {rs : List RowV} (h : Grid w A rs) : Grid w.drew A rs := h
theorem Grid.look {w : World} {A : Option Addr} {rs : List RowV} (h : Grid w A rs) {k : Nat} (hk : k < rs.length) :
    ∃ b o, A = some ⟨b, o, none⟩ ∧ b < w.heap.size ∧ w.cell? ⟨b, o + k, none⟩ = some (.slice rs[k].A rs[k].n rs[k].c) ∧ RowOk w rs[k] := by
  obtain ⟨b, o, hA, hb, hc⟩ := h.1.look (k := k) (by rw [rowVals_len]; exact hk)
  refine ⟨b, o, hA, hb, ?_, h.2 _ (List.getElem_mem hk)⟩
  rw [hc]
  simp [rowVals, RowV.val]

/-- The lengths of the first k lists together. -/
def part (rs : List RowV) (k : Nat) : Nat := ((rs.take k).map RowV.n).sum
/-- The length and all lengths together. -/
def total (rs : List RowV) : Nat := rs.length + part rs rs.length
theorem part_zero (rs : List RowV) : part rs 0 = 0 := rfl
theorem part_next {rs : List RowV} {k : Nat} (hk : k < rs.length) : part rs (k + 1) = part rs k + rs[k].n := by
  rw [part, part, List.take_succ_eq_append_getElem hk, List.map_append, List.sum_append]
  simp
theorem part_le {rs : List RowV} : ∀ {k : Nat}, k ≤ rs.length → ∀ {j : Nat}, j ≤ k → part rs j ≤ part rs k
  | 0, _, j, hj => by obtain rfl : j = 0 := by omega
                      exact Nat.le_refl _
  | k + 1, hk, j, hj => by
    rcases Nat.lt_or_ge j (k + 1) with h | h
    · have h1 := part_le (rs := rs) (k := k) (by omega) (j := j) (by omega)
      have h2 := part_next (rs := rs) (k := k) (by omega)
      omega
    · obtain rfl : j = k + 1 := by omega
      exact Nat.le_refl _
theorem total_row {rs : List RowV} {k : Nat} (hk : k < rs.length) : rs[k].n ≤ total rs := by
  have h1 := part_next hk
  have h2 := part_le (rs := rs) (Nat.le_refl _) (j := k + 1) (by omega)
  unfold total
  omega
theorem total_len (rs : List RowV) : rs.length ≤ total rs := by unfold total; omega
def totalLeft (rs : List RowV) (l : Int) : Int := if l < (total rs : Int) then -1 else l - (total rs : Int)
theorem totalLeft_no {rs : List RowV} {l : Int} {k : Nat} (hk : k ≤ rs.length) (h : l < (rs.length : Int) + (part rs k : Int)) : totalLeft rs l = -1 := by
  have h2 := part_le (rs := rs) (Nat.le_refl _) (j := k) hk
  rw [totalLeft, if_pos (by unfold total; omega)]
theorem totalLeft_yes {rs : List RowV} {l : Int} (h : (rs.length : Int) + (part rs rs.length : Int) ≤ l) : totalLeft rs l = l - ((rs.length : Int) + (part rs rs.length : Int)) := by
  rw [totalLeft, if_neg (by unfold total; omega)]
  unfold total
  omega

set_option maxHeartbeats 800000 in
theorem szIntSS_any (A : Option Addr) (n c : Nat) (rs : List RowV) (l : Int) (w : World) (hA : Grid w A rs) (hx : rs.length = n) (hn : n ≤ 9223372036854775807) (h0 : 0 ≤ l) (h1 : l ≤ 1048576) :
    Calls Try.prog 45 #[.slice A n c, .int .i64 l] w fun e w' => e = .returned (.int .i64 (totalLeft rs l)) ∧ w = w' := by
  subst hx
  by_cases h : l < rs.length
  · have h' : l - rs.length < 0 := by omega
    have HN := Lib.hid (totalLeft_no (rs := rs) (k := 0) (l := l) (Nat.zero_le _) (by rw [part_zero]; omega))
    go_enter Try.func45, Try.ntmps45
    go_wp2
    go_ret
    exact ⟨ret_of (by rw [HN.out]; rfl), rfl⟩
  · have h' : ¬ l - rs.length < 0 := by omega
    go_enter Try.func45, Try.ntmps45
    go_wp2
    go_loop [1, 5] (fun v i => ∃ (k : Nat) (x : Int), k ≤ rs.length ∧ i = .int .i64 k ∧ v = .int .i64 x ∧ 0 ≤ x ∧ x ≤ 1048576 ∧ x + (rs.length : Int) + (part rs k : Int) = l) (fun _ i => rs.length - (intOf i).toNat)
    case atStart => exact ⟨0, _, Nat.zero_le _, rfl, rfl, by omega, by omega, by rw [part_zero]; omega⟩
    case round =>
      obtain ⟨k, x, hk, rfl, rfl, hx0, hx1, hl⟩ := hrel
      by_cases hlt : k < rs.length
      · obtain ⟨b, o, rfl, hb, hc, hok⟩ := hA.look hlt
        have hp := part_next hlt
        by_cases hs : x < rs[k].n
        · have HN := Lib.hid (totalLeft_no (rs := rs) (k := k + 1) (l := l) (by omega) (by omega))
          clear hl hp h h'
          go_wp2_with (go_at_call 76; refine (szIntS_any _ _ _ _ _ hok.2.2 hx0 hx1).mono ?_; rintro e w' ⟨rfl, rfl⟩; rw [if_pos hs])
          go_ret
          exact ⟨ret_of (by rw [HN.out]; rfl), rfl⟩
        · have hl2 : x - rs[k].n + (rs.length : Int) + (part rs (k + 1) : Int) = l := by omega
          have HL := Lib.hid hl2
          have hx2 : 0 ≤ x - (rs[k].n : Int) := by omega
          have hx3 : x - (rs[k].n : Int) ≤ 1048576 := by omega
          clear hl hp h h' hl2
          go_wp2_with (go_at_call 76; refine (szIntS_any _ _ _ _ _ hok.2.2 hx0 hx1).mono ?_; rintro e w' ⟨rfl, rfl⟩; rw [if_neg hs])
          go_round
          case rel => exact ⟨k + 1, _, by omega, by go_num, rfl, hx2, hx3, HL.out⟩
          case measure => simp [intOf]; omega
      · have hkn : k = rs.length := by omega
        subst hkn
        have HN := Lib.hid (totalLeft_yes (rs := rs) (l := l) (by omega))
        have HV := Lib.hid (show x = l - ((rs.length : Int) + (part rs rs.length : Int)) by omega)
        clear hl h h'
        go_wp2
        go_ret
        exact ⟨ret_of (by rw [HN.out, ← HV.out]; rfl), rfl⟩
end Go.Proofs.Ytkocompjjogciaa

namespace Go.Proofs.Ytkocompjjogciaa
open Go.RowKit

/-- Lists of the call's own, each in blocks behind those of the one before. -/
def OwnRows (w : World) : Nat → Nat → List RowV → Prop
  | lo, hi, [] => lo ≤ hi
  | lo, hi, r :: rs => ∃ mid, lo ≤ mid ∧ Fresh w lo mid 3 r.A (nums r.xs) ∧ r.xs.length = r.n ∧ r.n ≤ 1048576 ∧ OwnRows w mid hi rs
theorem OwnRows.le {w : World} : ∀ {rs : List RowV} {lo hi : Nat}, OwnRows w lo hi rs → lo ≤ hi
  | [], _, _, h => h
  | _ :: _, _, _, ⟨_, h1, _, _, _, h2⟩ => Nat.le_trans h1 h2.le
theorem OwnRows.more {w : World} : ∀ {rs : List RowV} {lo hi hi' : Nat}, OwnRows w lo hi rs → hi ≤ hi' → OwnRows w lo hi' rs
  | [], _, _, _, h, h' => Nat.le_trans h h'
  | _ :: _, _, _, _, ⟨m, h1, hf, hl, hn, h2⟩, h' => ⟨m, h1, hf, hl, hn, h2.more h'⟩
theorem OwnRows.below {w w' : World} (hb : Below w.heap.size w w') : ∀ {rs : List RowV} {lo hi : Nat}, OwnRows w lo hi rs → OwnRows w' lo hi rs
  | [], _, _, h => h
  | _ :: _, _, _, ⟨m, h1, hf, hl, hn, h2⟩ => ⟨m, h1, hf.below hb, hl, hn, h2.below hb⟩
theorem OwnRows.set_out {w : World} {b o : Nat} {u : Value} : ∀ {rs : List RowV} {lo hi : Nat}, OwnRows w lo hi rs → (b < lo ∨ hi ≤ b) → OwnRows (w.setCell ⟨b, o, none⟩ u) lo hi rs
  | [], _, _, h, _ => h
  | _ :: _, _, _, ⟨m, h1, hf, hl, hn, h2⟩, hd => ⟨m, h1, hf.set_out (by have := h2.le; omega), hl, hn, h2.set_out (by omega)⟩
theorem OwnRows.snoc {w : World} {r : RowV} : ∀ {rs : List RowV} {lo mid hi : Nat}, OwnRows w lo mid rs → mid ≤ hi → Fresh w mid hi 3 r.A (nums r.xs) → r.xs.length = r.n → r.n ≤ 1048576 → OwnRows w lo hi (rs ++ [r])
  | [], _, _, hi, h, hm, hf, hl, hn => ⟨hi, Nat.le_trans h hm, hf.more h (Nat.le_refl _), hl, hn, Nat.le_refl _⟩
  | _ :: _, _, _, _, ⟨m, h1, hg, hk, ho, h2⟩, hm, hf, hl, hn => ⟨m, h1, hg, hk, ho, h2.snoc hm hf hl hn⟩
theorem OwnRows.ok {w : World} : ∀ {rs : List RowV} {lo hi : Nat}, OwnRows w lo hi rs → ∀ r ∈ rs, RowOk w r
  | [], _, _, _, _, hr => by cases hr
  | r :: rs, _, _, ⟨_, _, hf, hl, hn, h2⟩, x, hx => by
    rcases List.mem_cons.1 hx with rfl | hx
    · exact ⟨hf.holds, hl, by omega⟩
    · exact h2.ok x hx
/-- Lists of lists of the call's own: block g tells where they lie, the lists are behind it and before hi. -/
def OwnGrid (w : World) (g hi : Nat) (rs : List RowV) : Prop := Whole w g 22 (rowVals rs).toArray ∧ OwnRows w (g + 1) hi rs
theorem OwnGrid.grid {w : World} {g hi : Nat} {rs : List RowV} (h : OwnGrid w g hi rs) : Grid w (some ⟨g, 0, none⟩) rs :=
  ⟨h.1.holds, h.2.ok⟩
theorem OwnGrid.below {w w' : World} {g hi : Nat} {rs : List RowV} (h : OwnGrid w g hi rs) (hb : Below w.heap.size w w') : OwnGrid w' g hi rs := ⟨h.1.below hb, h.2.below hb⟩
theorem OwnGrid.alloc {w : World} {g hi : Nat} {rs : List RowV} (h : OwnGrid w g hi rs) (o : Obj) : OwnGrid (w.alloc o) g hi rs := h.below (below1 w o)
theorem OwnGrid.drew {w : World} {g hi : Nat} {rs : List RowV} (h : OwnGrid w g hi rs) : OwnGrid w.drew g hi rs := h.below ⟨rfl, rfl, rfl, Nat.le_refl _, fun _ _ => rfl⟩

/-- What stands in the copy's block behind k rounds. -/
def filledR (ws : List RowV) (n : Nat) : Array Value := (rowVals ws ++ List.replicate (n - ws.length) (Value.slice none 0 0)).toArray
theorem filledR_done {ws : List RowV} {n : Nat} (h : ws.length = n) : filledR ws n = (rowVals ws).toArray := by simp [filledR, h]
theorem filledR_at {ws : List RowV} {n : Nat} (h : ws.length < n) : (filledR ws n)[ws.length]? = some (.slice none 0 0) := by
  simp only [filledR, List.getElem?_toArray]
  rw [List.getElem?_append_right (by rw [rowVals_len]; omega)]
  simp [rowVals_len, List.getElem?_replicate]
  omega
theorem filledR_next {ws : List RowV} {n : Nat} (r : RowV) (h : ws.length < n) : (filledR ws n).setIfInBounds ws.length r.val = filledR (ws ++ [r]) n := by
  obtain ⟨m, hm⟩ : ∃ m, n - ws.length = m + 1 := ⟨n - ws.length - 1, by omega⟩
  have hm' : n - (ws ++ [r]).length = m := by simp; omega
  unfold filledR
  rw [hm, hm', List.replicate_succ]
  simp only [rowVals, List.map_append, List.map_cons, List.map_nil, List.append_assoc, List.singleton_append]
  rw [List.setIfInBounds_toArray]
  congr 1
  rw [List.set_append_right _ _ (by simp)]
  simp
theorem made_rows (n : Nat) : madeCells (Value.slice none 0 0).cells (n * 1) = (List.replicate n (Value.slice none 0 0)).toArray := by
  apply Array.ext_getElem?
  intro j
  simp [madeCells, Value.cells, Nat.mod_one, Array.getElem?_range]
  by_cases h : j < n <;> simp [h]
theorem info_row : (Try.prog.info? 22).map (fun i => (i.zero, i.size, i.bytes)) = some (some (.slice none 0 0), 1, 24) := by kernel_rfl

/-- What toIntSS hands back. -/
def GridPost (n : Nat) (rs : List RowV) (w : World) (e : Ending) (w' : World) : Prop :=
  ∃ (g : Nat) (ws : List RowV), e = .returned (.slice (some ⟨g, 0, none⟩) n n) ∧ w.heap.size ≤ g ∧ OwnGrid w' g w'.heap.size ws ∧ rowNums ws = rowNums rs ∧ ws.length = n ∧ Below w.heap.size w w'

theorem rowNums_next {ws rs : List RowV} {k : Nat} {r : RowV} (h : rowNums ws = (rowNums rs).take k) (hk : k < rs.length) (hr : r.xs = rs[k].xs) : rowNums (ws ++ [r]) = (rowNums rs).take (k + 1) := by
  rw [List.take_succ_eq_append_getElem (by rw [rowNums_len]; exact hk), ← h]
  simp [rowNums, hr]

set_option maxHeartbeats 800000 in
theorem toIntSS_any (A : Option Addr) (n c : Nat) (rs : List RowV) (w : World) (hA : Grid w A rs) (hx : rs.length = n) (ht : total rs ≤ 1048576) :
    Calls Try.prog 47 #[.slice A n c] w (GridPost n rs w) := by
  have hn : n ≤ 1048576 := by have := total_len rs; omega
  obtain ⟨i0, hi, hz0, hz1, hz2⟩ := info_parts info_row
  have hmk : ∀ W : World, (Instr.makeSlice 28 (.int .i64 (n : Int)) (.int .i64 (n : Int))).run Try.prog W = .ok (.slice (some ⟨W.heap.size, 0, none⟩) n n) (W.alloc (.cells (filledR [] n) 22)) := by
    intro W
    have h := run_make (P := Try.prog) W 28 22 i0 _ Try.underlying28 hi hz0 .i64 .i64 n n (by omega) (by omega) (by rw [hz2]; omega) (by omega)
    simp only [Int.toNat_natCast, hz1, made_rows] at h
    rw [h]
    simp [filledR, rowVals]
  have HX := Lib.hid hx
  clear hi hz0 hz1 hz2 hx
  go_enter Try.func47, Try.ntmps47
  go_wp2
  have h0 := Whole.fresh w 22 (filledR [] n)
  have hb0 : Below w.heap.size w (w.alloc (.cells (filledR [] n) 22)) := (Below.refl _ _).alloc (Nat.le_refl _) _
  go_loopw [4] (fun i wr => ∃ (k : Nat) (ws : List RowV), k ≤ n ∧ i = .int .i64 k ∧ ws.length = k ∧ Whole wr w.heap.size 22 (filledR ws n) ∧ Below w.heap.size w wr ∧ OwnRows wr (w.heap.size + 1) wr.heap.size ws ∧ rowNums ws = (rowNums rs).take k) (fun i _ => n - (intOf i).toNat)
  case atStart => exact ⟨0, [], Nat.zero_le _, rfl, rfl, h0, hb0, by simp [OwnRows], rfl⟩
  case round =>
    obtain ⟨k, ws, hk, rfl, hlen, hw, hb, hown, hnums⟩ := hrel
    clear hmk h0 hb0
    subst hlen
    have HNUM := Lib.hid hnums
    have hwl := hw.lt
    by_cases hlt : ws.length < n
    · have hkr : ws.length < rs.length := by have := HX.out; omega
      obtain ⟨b, o, rfl, hbl, hc, hok⟩ := (hA.below hb).look hkr
      have hsz : rs[ws.length].n ≤ 1048576 := Nat.le_trans (total_row hkr) ht
      clear hnums
      go_wp2_with fail
      refine (toIntS_own _ _ _ rs[ws.length].xs _ hok.1 hok.2.1 hsz).mono ?_
      rintro e w1 ⟨g1, rfl, hg1, hw1, hb1⟩
      have hF := Fresh.of_whole (lo := wr.heap.size) (hi := w1.heap.size) hw1 hg1 hw1.lt
      have hwz : wr.heap.size ≤ w1.heap.size := hb1.size
      have hown1 := (hown.below hb1).snoc (r := ⟨some ⟨g1, 0, none⟩, rs[ws.length].n, rs[ws.length].n, rs[ws.length].xs⟩) hwz hF hok.2.1 hsz
      have hown2 := hown1.set_out (b := w.heap.size) (o := ws.length) (u := .slice (some ⟨g1, 0, none⟩) rs[ws.length].n rs[ws.length].n) (.inl (by omega))
      have hw2 := hw.below hb1
      have hcell : w1.cell? ⟨w.heap.size, ws.length, none⟩ = some (.slice none 0 0) := (hw2.cell _).trans (filledR_at hlt)
      have hfr := hw2.open_ ws.length
      have hnext := hw2.set_ ws.length (.slice (some ⟨g1, 0, none⟩) rs[ws.length].n rs[ws.length].n)
      rw [show (Value.slice (some ⟨g1, 0, none⟩) rs[ws.length].n rs[ws.length].n) = RowV.val ⟨some ⟨g1, 0, none⟩, rs[ws.length].n, rs[ws.length].n, rs[ws.length].xs⟩ from rfl, filledR_next _ hlt] at hnext
      have hbw := below_then hb hb1 hb.size
      have HNX := Lib.hid (rowNums_next (r := ⟨some ⟨g1, 0, none⟩, rs[ws.length].n, rs[ws.length].n, rs[ws.length].xs⟩) HNUM.out hkr rfl)
      have HO := Lib.hid hown2
      have HN := Lib.hid hnext
      clear hown hown1 hown2 hnext hw hw2 hF hb hc hw1 hok
      go_wp2
      go_roundw
      case rel => exact ⟨ws.length + 1, _, by omega, by go_num, by simp, HN.out, hbw.setCell (Nat.le_refl _) _, by simpa [World.setCell] using HO.out, HNX.out⟩
      case measure => simp [intOf]; omega
    · have hkn : ws.length = n := by omega
      rw [filledR_done hkn] at hw
      have HK := Lib.hid hkn
      clear hnums hkn
      go_wp2
      go_ret
      exact ⟨w.heap.size, ws, rfl, Nat.le_refl _, ⟨hw, hown⟩, by rw [HNUM.out, List.take_of_length_le (by rw [rowNums_len, HX.out, HK.out]; exact Nat.le_refl _)], HK.out, hb⟩

/-- Two lists of one reading are the same; nothing but draws. -/
theorem eqIntS_drawn (A B : Option Addr) (n m c d : Nat) (xs ys : List Int) (w : World) (k : Nat) (hA : Holds (w.drewN k) A (nums xs)) (hB : Holds (w.drewN k) B (nums ys)) (hx : xs.length = n) (hy : ys.length = m) (he : xs = ys) (hn : n ≤ 9223372036854775807) :
    Calls Try.prog 36 #[.slice A n c, .slice B m d] (w.drewN k) fun e w'' => e = .returned (.bool true) ∧ ∃ q, w'' = w.drewN q :=
  Calls.quiet_of ((eqIntS_any A B n m c d xs ys _ hA hB hx hy hn (by subst he; omega)).mono fun _ _ ⟨h, q⟩ => ⟨by rw [h, sameInts_yes he], q⟩)

theorem rowNums_at {rs ss : List RowV} (h : rowNums rs = rowNums ss) {k : Nat} (hk : k < rs.length) (hk' : k < ss.length) : rs[k].xs = ss[k].xs := by
  have h1 := congrArg (fun l : List (List Int) => l[k]?) h
  simpa [rowNums, hk, hk'] using h1

set_option maxHeartbeats 800000 in
theorem eqIntSS_yes (A B : Option Addr) (n m c d : Nat) (rs ss : List RowV) (w : World) (hA : Grid w A rs) (hB : Grid w B ss) (he : rowNums rs = rowNums ss) (hx : rs.length = n) (hy : ss.length = m) (hn : n ≤ 9223372036854775807) :
    Calls Try.prog 26 #[.slice A n c, .slice B m d] w fun e w' => e = .returned (.bool true) ∧ Below w.heap.size w w' := by
  have hl : rs.length = ss.length := by rw [← rowNums_len rs, ← rowNums_len ss, he]
  subst hx hy
  have hl' : ((rs.length : Int) != (ss.length : Int)) = false := by simp [hl]
  have HL := Lib.hid hl
  have HE := Lib.hid he
  clear hl he
  go_enter Try.func26, Try.ntmps26
  go_wp2
  go_loopw [5] (fun i wr => ∃ k : Nat, k ≤ rs.length ∧ i = .int .i64 k ∧ Below w.heap.size w wr) (fun i _ => rs.length - (intOf i).toNat)
  case atStart => exact ⟨0, Nat.zero_le _, rfl, Below.refl _ _⟩
  case round =>
    obtain ⟨k, hk, rfl, hb⟩ := hrel
    by_cases hlt : k < rs.length
    · have hlt' : k < ss.length := by have := HL.out; omega
      obtain ⟨b, o, rfl, hbl, hc, hok⟩ := (hA.below hb).look hlt
      obtain ⟨b', o', rfl, hbl', hc', hok'⟩ := (hB.below hb).look hlt'
      have HV := Lib.hid (rowNums_at HE.out hlt hlt')
      go_wp2
      go_quiet ((go_at_call 36; exact eqIntS_drawn _ _ _ _ _ _ rs[k].xs ss[k].xs wr _ (hok.1.below (below_draws (Below.refl _ _) _)) (hok'.1.below (below_draws (Below.refl _ _) _)) hok.2.1 hok'.2.1 HV.out hok.2.2))
      go_wp2
      go_roundw
      case rel => exact ⟨k + 1, by omega, by go_num, below_draws hb _⟩
      case measure => simp [intOf]; omega
    · go_wp2
      go_ret
      exact ⟨rfl, hb⟩
end Go.Proofs.Ytkocompjjogciaa

namespace Go.Proofs.Ytkocompjjogciaa
open Go.RowKit

/-- So many people, all over. -/
def trues (n : Nat) : List Bool := List.replicate n true
theorem trues_len (n : Nat) : (trues n).length = n := by simp [trues]
theorem trues_next (n : Nat) : bits (trues n) ++ [.bool true] = bits (trues (n + 1)) := by
  simp [bits, trues, List.replicate_succ']

set_option maxHeartbeats 1600000 in
set_option maxRecDepth 100000 in
theorem paLast_any (A : Option Addr) (n c : Nat) (s : Int) (w : World) (hn : n ≤ 1048576) :
    Calls Try.prog 104 #[.agg #[.slice A n c, .int .i64 s]] w (StateRes (trues n) true w) := by
  obtain ⟨i0, hi, hz0, hz1, hz2⟩ := info_parts info_bool
  have HI := Lib.hid hi
  have HZ0 := Lib.hid hz0
  have HZ1 := Lib.hid hz1
  have HZ2 := Lib.hid hz2
  clear hi hz0 hz1 hz2
  have h1 := (Whole.fresh (w.alloc (.cells #[.slice A n c, .int .i64 s] 37)) 38 #[.slice none 0 0, .bool false]).alloc (.cells #[.slice none 0 0, .bool true] 38)
  have h2 := Whole.fresh ((w.alloc (.cells #[.slice A n c, .int .i64 s] 37)).alloc (.cells #[.slice none 0 0, .bool false] 38)) 38 #[.slice none 0 0, .bool true]
  have hb0 := below3 w (.cells #[.slice A n c, .int .i64 s] 37) (.cells #[.slice none 0 0, .bool false] 38) (.cells #[.slice none 0 0, .bool true] 38)
  simp only [World.size_alloc] at h1 h2
  go_enter Try.func104, Try.ntmps104
  go_wp2
  go_loopw [8] (fun i wr => ∃ (k : Nat) (D : Option Addr) (q : Nat), k ≤ n ∧ i = .int .i64 k ∧ wr.ownsRow (w.heap.size + 1 + 1 + 1) 4 1 (.slice D k q) k (bits (trues k)) ∧ Whole wr (w.heap.size + 1) 38 #[.slice none 0 0, .bool false] ∧ Whole wr (w.heap.size + 1 + 1) 38 #[.slice D k q, .bool true] ∧ Below w.heap.size w wr) (fun i _ => n - (intOf i).toNat)
  case atStart => exact ⟨0, none, 0, Nat.zero_le _, rfl, World.ownsRow_nil _ _ _ _, h1, h2, hb0⟩
  case round =>
    clear h1 h2 hb0
    obtain ⟨k, D, q, hk, rfl, hown, h1, h2, hb⟩ := hrel
    obtain ⟨a0, a1, e0, e1⟩ := h2.two
    have hl2 := h2.lt
    by_cases hlt : k < n
    · have hOW := Lib.hid (hown.alloc (.cells #[.bool true] 4))
      have h1' := Lib.hid (h1.alloc (.cells #[.bool true] 4))
      have h2' := Lib.hid (h2.alloc (.cells #[.bool true] 4))
      have hb' := Lib.hid (hb.alloc hb.size (.cells #[.bool true] 4))
      have hbase : w.heap.size + 1 + 1 + 1 ≤ (wr.alloc (.cells #[.bool true] 4)).heap.size := by simp; omega
      have HBASE := Lib.hid hbase
      have HMAX := Lib.hid (show k + 1 ≤ maxLen by unfold maxLen; omega)
      have HBYT := Lib.hid (show (k + 1) * 1 ≤ 140737488355328 by omega)
      clear hown h1 h2 hb hbase
      go_wp2_with (at_builtin; refine wpList_append_own _ rfl (.tmp 11) (.tmp 12) 25 rfl (w.heap.size + 1 + 1 + 1) 4 i0 (.bool false) 1 1 Try.underlying25 HI.out HZ0.out HZ1.out HZ2.out rfl (by decide) (.slice D k q) k (bits (trues k)) rfl hOW.out ⟨wr.heap.size, 0, none⟩ 1 1 [.bool true] rfl rfl (cell_one_new _ _ _) (by simp [Value.oneCell']) HMAX.out HBYT.out HBASE.out ?_; intro v' w1 hown1 hg1 _; obtain ⟨D', q', hv', -⟩ := Fresh.of_own hown1 (Nat.le_refl _); rw [hv'] at hown1 ⊢; clear hv'; have g2 : Whole w1 (w.heap.size + 1 + 1) 38 #[.slice D k q, .bool true] := (hg1.block _ h2'.out.lt (fun e => by have := (hOW.out.lt _ e.symm).1; omega)).trans h2'.out; have g1 : Whole w1 (w.heap.size + 1) 38 #[.slice none 0 0, .bool false] := (hg1.block _ h1'.out.lt (fun e => by have := (hOW.out.lt _ e.symm).1; omega)).trans h1'.out; obtain ⟨b0, b1, f0, f1⟩ := g2.two)
      have hbw : Below w.heap.size w w1 := hb'.out.grown hg1 (by have := hb'.out.size; omega) (fun kk e => by have := (hOW.out.lt _ e).1; omega)
      rw [trues_next] at hown1
      have hown2 := ownsRow_setCell_below hown1 (a := ⟨w.heap.size + 1 + 1, 0, none⟩) (by show w.heap.size + 1 + 1 < _; omega) (.slice D' (k + 1) q')
      go_roundw
      case rel => exact ⟨k + 1, D', q', by omega, by go_num, hown2, g1.off (by omega), g2.set_ 0 (.slice D' (k + 1) q'), below_set hbw (by omega)⟩
      case measure => simp [intOf]; omega
    · have hkn : k = n := by omega
      subst hkn
      obtain ⟨r0, r1, f0, f1⟩ := h1.two
      obtain ⟨D', q', hv', hf⟩ := Fresh.of_own hown (Nat.le_refl _)
      simp only [Value.slice.injEq, true_and] at hv'
      obtain ⟨rfl, rfl⟩ := hv'
      have HF := Lib.hid (((hf.set_out (b := w.heap.size + 1) (o := 0) (u := .slice D k q) (.inl (by omega))).set_out (b := w.heap.size + 1) (o := 1) (u := .bool true) (.inl (by omega))).more (lo' := w.heap.size) (hi' := wr.heap.size) (by omega) (Nat.le_refl _))
      clear hf hown
      go_wp2
      refine bodyPost_ret (v := .agg #[.slice D k q, .bool true]) (by simp [results, Try.results104, go_sem, r0, r1]) rfl ⟨D, q, by rw [trues_len], ?_, ?_⟩
      · have h := HF.out
        simpa [World.setCell] using h
      · exact below_set (below_set hb (by omega)) (by omega)

/-- The places of the last state: none where there is no party. -/
def lastBits (xs : List Int) (n : Nat) (s : Int) : List Bool := if isParty xs s then trues n else []
theorem lastBits_le (xs : List Int) (n : Nat) (s : Int) : (lastBits xs n s).length ≤ n := by
  rw [lastBits]
  split
  · rw [trues_len]; exact Nat.le_refl _
  · simp

theorem place_over (n : Nat) (h : n < 8) : (placeCells (trues n) true).setIfInBounds n (.bool true) = placeCells (trues (n + 1)) true := by
  match n, h with
  | 0, _ => rfl
  | 1, _ => rfl
  | 2, _ => rfl
  | 3, _ => rfl
  | 4, _ => rfl
  | 5, _ => rfl
  | 6, _ => rfl
  | 7, _ => rfl
theorem size_place : (Try.prog.info? 113).map (·.size) = some 9 := by kernel_rfl
theorem place_one (bs : List Bool) (t : Bool) : (placeCells bs t).all (·.oneCell') = true := by simp [placeCells, Value.oneCell']

set_option maxHeartbeats 1600000 in
theorem everybodyOver_any (n : Nat) (w : World) (hn : n ≤ 8) :
    Calls Try.prog 97 #[.int .i64 n] w fun e w' => e = .returned (.agg (placeCells (trues n) true)) ∧ Below w.heap.size w w' := by
  have h1 := (Whole.fresh w 113 (placeCells [] false)).alloc (.cells (placeCells (trues 0) true) 113)
  have h2 := Whole.fresh (w.alloc (.cells (placeCells [] false) 113)) 113 (placeCells (trues 0) true)
  have hb0 := below2 w (.cells (placeCells [] false) 113) (.cells (placeCells (trues 0) true) 113)
  simp only [World.size_alloc] at h1 h2
  go_enter Try.func97, Try.ntmps97
  go_wp2
  go_loopw [7] (fun i wr => ∃ k : Nat, k ≤ n ∧ i = .int .i64 k ∧ Whole wr w.heap.size 113 (placeCells [] false) ∧ Whole wr (w.heap.size + 1) 113 (placeCells (trues k) true) ∧ Below w.heap.size w wr) (fun i _ => n - (intOf i).toNat)
  case atStart => exact ⟨0, Nat.zero_le _, rfl, h1, h2, hb0⟩
  case round =>
    clear h1 h2 hb0
    obtain ⟨k, hk, rfl, h1, h2, hb⟩ := hrel
    by_cases hlt : k < n
    · have hk8 : k < 8 := by omega
      have hki : (k : Int) < 8 := by omega
      have hcell := (h2.cell k).trans (place_at (trues k) true hk8)
      have hfr := h2.open_ k
      have hset := h2.set_ k (.bool true)
      rw [place_over k hk8] at hset
      go_wp2
      go_roundw
      case rel => exact ⟨k + 1, by omega, by go_num, h1.off (by omega), hset, below_set hb (by omega)⟩
      case measure => simp [intOf]; omega
    · have hkn : k = n := by omega
      subst hkn
      go_wp2_with (first | (refine wpList_load_row rfl 113 (.tmp 3) rfl (w.heap.size + 1) rfl 113 (placeCells (trues k) true) (0, 0) _ h2 Try.underlying113 rfl size_place ?_) | (refine wpList_store_whole rfl 113 (.tmp 2) (.tmp 15) rfl w.heap.size (placeCells (trues k) true) rfl rfl 113 (placeCells [] false) h1 size_place rfl (place_one _ _) ?_; intro w2 hw2 ho2))
      have hb2 := ho2.below hb (by omega)
      obtain ⟨r0, r1, r2, r3, r4, r5, r6, r7, r8⟩ := place_cells hw2
      refine bodyPost_ret (v := .agg (placeCells (trues k) true)) (by simp [results, Try.results97, go_sem, r0, r1, r2, r3, r4, r5, r6, r7, r8, placeCells]) rfl ⟨rfl, hb2⟩

end Go.Proofs.Ytkocompjjogciaa

namespace Go.Proofs.Ytkocompjjogciaa
open Go.RowKit

/-- The places behind a trip: those on the list have changed sides. -/
def flipped (bs : List Bool) (l : List Int) : List Bool := (List.range bs.length).map fun i => bs.getD i false != has l i
theorem flipped_len (bs : List Bool) (l : List Int) : (flipped bs l).length = bs.length := by simp [flipped]
theorem flipped_at (bs : List Bool) (l : List Int) {i : Nat} (h : i < bs.length) : (flipped bs l)[i]? = some (bs.getD i false != has l i) := by simp [flipped, h]
theorem flipped_get (bs : List Bool) (l : List Int) {i : Nat} (h : i < bs.length) : (flipped bs l).getD i false = (bs.getD i false != has l i) := by
  rw [List.getD_eq_getElem?_getD, flipped_at bs l h]; rfl
theorem flipped_out (bs : List Bool) (l : List Int) {i : Nat} (h : bs.length ≤ i) : (flipped bs l).getD i false = false := by
  rw [List.getD_eq_getElem?_getD, List.getElem?_eq_none (by rw [flipped_len]; exact h)]; rfl
theorem flipped_nil (bs : List Bool) : flipped bs [] = bs := by
  apply List.ext_getElem?
  intro i
  by_cases h : i < bs.length
  · rw [flipped_at bs [] h]; simp [has, h]
  · rw [List.getElem?_eq_none (by rw [flipped_len]; omega), List.getElem?_eq_none (by omega)]
theorem flipped_next (bs : List Bool) {l : List Int} {j : Nat} (hj : j < l.length) (h0 : 0 ≤ l[j]) : (flipped bs (l.take j)).set (l[j]).toNat (!(bs.getD (l[j]).toNat false)) = flipped bs (l.take (j + 1)) := by
  apply List.ext_getElem?
  intro i
  rw [List.getElem?_set, flipped_len]
  by_cases hi : i < bs.length
  · rw [flipped_at bs _ hi, flipped_at bs _ hi, List.take_succ_eq_append_getElem hj, has_snoc]
    by_cases he : (l[j]).toNat = i
    · have hx : (l[j] == (i : Int)) = true := by simp; omega
      rw [if_pos he, if_pos (by omega), he, hx]
      cases has (l.take j) i <;> cases bs.getD i false <;> rfl
    · have hx : (l[j] == (i : Int)) = false := by simp; omega
      rw [if_neg he, hx, Bool.or_false]
  · rw [List.getElem?_eq_none (l := flipped bs (l.take (j + 1))) (by rw [flipped_len]; omega)]
    by_cases he : (l[j]).toNat = i
    · rw [if_pos he, if_neg (by omega)]
    · rw [if_neg he, List.getElem?_eq_none (by rw [flipped_len]; omega)]
theorem has_out {l : List Int} {n i : Nat} (hs : StepsTo l (n - 1) l.length) (h : n ≤ i) : has l i = false := by
  cases hh : has l i
  · rfl
  · have := (mem_steps hs (has_iff.1 hh)).2
    omega

/-- Places and torch behind all trips. -/
def after : List Bool → Bool → List (List Int) → List Bool × Bool
  | bs, t, [] => (bs, t)
  | bs, t, l :: ls => after (flipped bs l) (!t) ls
theorem after_snoc (l : List Int) : ∀ (ls : List (List Int)) (bs : List Bool) (t : Bool), after bs t (ls ++ [l]) = (flipped (after bs t ls).1 l, !(after bs t ls).2)
  | [], _, _ => rfl
  | _ :: ls, _, _ => after_snoc l ls _ _
theorem after_len : ∀ (ls : List (List Int)) (bs : List Bool) (t : Bool), (after bs t ls).1.length = bs.length
  | [], _, _ => rfl
  | l :: ls, bs, _ => (after_len ls _ _).trans (flipped_len bs l)
/-- How many trips can be made. -/
noncomputable def made (n : Nat) (s : Int) : List Bool → Bool → List (List Int) → Nat
  | _, _, [] => 0
  | bs, t, l :: ls => if canGo n s bs t l then made n s (flipped bs l) (!t) ls + 1 else 0
theorem made_le (n : Nat) (s : Int) : ∀ (ls : List (List Int)) (bs : List Bool) (t : Bool), made n s bs t ls ≤ ls.length
  | [], _, _ => Nat.le_refl _
  | l :: ls, bs, t => by
    rw [made]
    split
    · have := made_le n s ls (flipped bs l) (!t); simp; omega
    · simp
/-- The first k trips can be made; the rest is still to be looked at. -/
def MadeTo (n : Nat) (s : Int) (bs : List Bool) (t : Bool) (ls : List (List Int)) (k : Nat) : Prop :=
  made n s bs t ls = k + made n s (after bs t (ls.take k)).1 (after bs t (ls.take k)).2 (ls.drop k)
theorem MadeTo.start (n : Nat) (s : Int) (bs : List Bool) (t : Bool) (ls : List (List Int)) : MadeTo n s bs t ls 0 := by simp [MadeTo, after]
theorem MadeTo.next {n : Nat} {s : Int} {bs : List Bool} {t : Bool} {ls : List (List Int)} {k : Nat} (h : MadeTo n s bs t ls k) (hk : k < ls.length) (hc : canGo n s (after bs t (ls.take k)).1 (after bs t (ls.take k)).2 ls[k] = true) : MadeTo n s bs t ls (k + 1) := by
  unfold MadeTo at h ⊢
  rw [h, List.drop_eq_getElem_cons hk, made, if_pos hc, List.take_succ_eq_append_getElem hk, after_snoc]
  dsimp only
  omega
theorem MadeTo.stop {n : Nat} {s : Int} {bs : List Bool} {t : Bool} {ls : List (List Int)} {k : Nat} (h : MadeTo n s bs t ls k) (hk : k < ls.length) (hc : canGo n s (after bs t (ls.take k)).1 (after bs t (ls.take k)).2 ls[k] = false) : made n s bs t ls = k := by
  unfold MadeTo at h
  rw [h, List.drop_eq_getElem_cons hk, made, if_neg (by simp [hc])]
  omega
theorem MadeTo.done {n : Nat} {s : Int} {bs : List Bool} {t : Bool} {ls : List (List Int)} {k : Nat} (h : MadeTo n s bs t ls k) (hk : ls.length ≤ k) : made n s bs t ls = k := by
  unfold MadeTo at h
  rw [h, List.drop_eq_nil_of_le hk, made]
  omega
/-- Places and torch behind the trips that can be made. -/
noncomputable def ended (n : Nat) (s : Int) (bs : List Bool) (t : Bool) (ls : List (List Int)) : List Bool × Bool := after bs t (ls.take (made n s bs t ls))
theorem ended_len (n : Nat) (s : Int) (bs : List Bool) (t : Bool) (ls : List (List Int)) : (ended n s bs t ls).1.length = bs.length := after_len _ _ _
theorem can_steps {n : Nat} {s : Int} {bs : List Bool} {t : Bool} {l : List Int} (h : canGo n s bs t l = true) : StepsTo l (n - 1) l.length := by
  simp only [canGo, Bool.and_eq_true] at h
  exact trip_steps h.1
theorem trip_short {n : Nat} {s : Int} {l : List Int} (h : isTrip n s l = true) : (l.length : Int) ≤ s := by
  simp only [isTrip, Bool.and_eq_true] at h
  exact (within_iff.1 h.1).2
end Go.Proofs.Ytkocompjjogciaa

namespace Go.Proofs.Ytkocompjjogciaa
open Go.RowKit

/-- One cell of the place while the first k people are looked at. -/
def crossAt (bs : List Bool) (l : List Int) (k i : Nat) : Bool := if i < k then bs.getD i false != has l i else bs.getD i false
def crossTo (bs : List Bool) (t : Bool) (l : List Int) (k : Nat) : Array Value := #[.bool (crossAt bs l k 0), .bool (crossAt bs l k 1), .bool (crossAt bs l k 2), .bool (crossAt bs l k 3), .bool (crossAt bs l k 4), .bool (crossAt bs l k 5), .bool (crossAt bs l k 6), .bool (crossAt bs l k 7), .bool t]
theorem crossAt_here (bs : List Bool) (l : List Int) (k : Nat) : crossAt bs l k k = bs.getD k false := by simp [crossAt]
theorem cross_get (bs : List Bool) (t : Bool) (l : List Int) {k : Nat} (h : k < 8) : (crossTo bs t l k)[k]? = some (.bool (bs.getD k false)) := by
  rw [← crossAt_here bs l k]
  match k, h with
  | 0, _ => rfl
  | 1, _ => rfl
  | 2, _ => rfl
  | 3, _ => rfl
  | 4, _ => rfl
  | 5, _ => rfl
  | 6, _ => rfl
  | 7, _ => rfl
theorem cross_skip (bs : List Bool) (t : Bool) {l : List Int} {k : Nat} (h : has l k = false) : crossTo bs t l (k + 1) = crossTo bs t l k := by
  have hh : ∀ i, crossAt bs l (k + 1) i = crossAt bs l k i := by
    intro i
    unfold crossAt
    by_cases h1 : i < k
    · rw [if_pos h1, if_pos (by omega)]
    · by_cases h2 : i = k
      · subst h2; rw [if_pos (by omega), if_neg h1, h]; cases bs.getD i false <;> rfl
      · rw [if_neg h1, if_neg (by omega)]
  simp only [crossTo, hh]
theorem cross_turn (bs : List Bool) (t : Bool) {l : List Int} {k : Nat} (hk : k < 8) (h : has l k = true) : (crossTo bs t l k).setIfInBounds k (.bool (!(bs.getD k false))) = crossTo bs t l (k + 1) := by
  have h1 : crossAt bs l (k + 1) k = !(bs.getD k false) := by
    unfold crossAt; rw [if_pos (by omega), h]; cases bs.getD k false <;> rfl
  have hh : ∀ i, i ≠ k → crossAt bs l (k + 1) i = crossAt bs l k i := by
    intro i hi
    unfold crossAt
    by_cases h1 : i < k
    · rw [if_pos h1, if_pos (by omega)]
    · rw [if_neg h1, if_neg (by omega)]
  rw [← h1]
  unfold crossTo
  match k, hk with
  | 0, _ => simp [hh]
  | 1, _ => simp [hh]
  | 2, _ => simp [hh]
  | 3, _ => simp [hh]
  | 4, _ => simp [hh]
  | 5, _ => simp [hh]
  | 6, _ => simp [hh]
  | 7, _ => simp [hh]
theorem cross_start (bs : List Bool) (t : Bool) (l : List Int) : placeCells bs t = crossTo bs t l 0 := by simp [placeCells, crossTo, crossAt]
theorem cross_end {bs : List Bool} {t : Bool} {l : List Int} (h : ∀ i, bs.length ≤ i → has l i = false) : (crossTo bs t l 8).setIfInBounds 8 (.bool (!t)) = placeCells (flipped bs l) (!t) := by
  have hh : ∀ i, i < 8 → crossAt bs l 8 i = (flipped bs l).getD i false := by
    intro i hi
    rw [crossAt, if_pos hi]
    by_cases h1 : i < bs.length
    · rw [flipped_get bs l h1]
    · rw [flipped_out bs l (by omega), h i (by omega), List.getD_eq_getElem?_getD, List.getElem?_eq_none (by omega)]; rfl
  simp only [crossTo, placeCells, hh 0 (by omega), hh 1 (by omega), hh 2 (by omega), hh 3 (by omega), hh 4 (by omega), hh 5 (by omega), hh 6 (by omega), hh 7 (by omega)]
  rfl
theorem cross_one (bs : List Bool) (t : Bool) (l : List Int) (k : Nat) : (crossTo bs t l k).all (·.oneCell') = true := by simp [crossTo, Value.oneCell']

set_option maxHeartbeats 1600000 in
theorem cross_any (bs : List Bool) (l : List Int) (t : Bool) (w : World) (h : ∀ i, bs.length ≤ i → has l i = false) :
    Calls Try.prog 147 #[.agg (placeCells bs t), .agg (crowdCells l)] w fun e w' => e = .returned (.agg (placeCells (flipped bs l) (!t))) ∧ Below w.heap.size w w' := by
  have HEND := Lib.hid (cross_end (t := t) h)
  clear h
  have h0 := ((Whole.fresh w 113 (placeCells bs t)).alloc (.cells (crowdCells l) 111)).alloc (.cells (placeCells [] false) 113)
  have h2 := Whole.fresh ((w.alloc (.cells (placeCells bs t) 113)).alloc (.cells (crowdCells l) 111)) 113 (placeCells [] false)
  simp only [World.size_alloc] at h2
  have hb := below3 w (.cells (placeCells bs t) 113) (.cells (crowdCells l) 111) (.cells (placeCells [] false) 113)
  rw [cross_start bs t l] at h0
  have H0 := Lib.hid h0
  have H2 := Lib.hid h2
  have HB := Lib.hid hb
  clear h0 h2 hb
  unfold crowdCells at *
  go_enter Try.func147, Try.ntmps147
  go_wp2
  go_loopw [9] (fun i wr => ∃ k : Nat, k ≤ 8 ∧ i = .int .i64 k ∧ Whole wr w.heap.size 113 (crossTo bs t l k) ∧ Whole wr (w.heap.size + 1 + 1) 113 (placeCells [] false) ∧ Below w.heap.size w wr) (fun i _ => 8 - (intOf i).toNat)
  case atStart => exact ⟨0, Nat.zero_le _, rfl, H0.out, H2.out, HB.out⟩
  case round =>
    obtain ⟨k, hk, rfl, g0, g2, hb⟩ := hrel
    clear H0 H2 HB
    have hl0 := g0.lt
    have hl2 := g2.lt
    by_cases hlt : k < 8
    · have hix := index_crowd l hlt
      have hkk : (k : Int) < 8 := by omega
      cases hp : has l k
      · rw [hp] at hix
        have HN := Lib.hid (cross_skip bs t hp)
        clear hp
        go_wp2
        go_roundw
        case rel => exact ⟨k + 1, by omega, by go_num, by rw [HN.out]; exact g0, g2, hb⟩
        case measure => simp [intOf]; omega
      · rw [hp] at hix
        have hcell := (g0.cell k).trans (cross_get bs t l hlt)
        have hfr := g0.open_ k
        have hs := g0.set_ k (.bool (!(bs.getD k false)))
        rw [cross_turn bs t hlt hp] at hs
        have HS := Lib.hid hs
        have HF := Lib.hid (g2.off (b := w.heap.size) (o := k) (u := .bool (!(bs.getD k false))) (by omega))
        clear hp hs
        go_wp2
        go_roundw
        case rel => exact ⟨k + 1, by omega, by go_num, HS.out, HF.out, below_set hb (Nat.le_refl _)⟩
        case measure => simp [intOf]; omega
    · have hk8 : k = 8 := by omega
      subst hk8
      have hcell := (g0.cell 8).trans (show (crossTo bs t l 8)[8]? = some (.bool t) from rfl)
      have hfr := g0.open_ 8
      have hs := g0.set_ 8 (.bool (!t))
      rw [HEND.out] at hs
      have hg2 := g2.off (b := w.heap.size) (o := 8) (u := .bool (!t)) (by omega)
      have hbb := below_set (o := 8) (u := .bool (!t)) hb (Nat.le_refl w.heap.size)
      clear g0 g2 hb
      go_wp2_with (first | (refine wpList_load_row rfl 113 (.tmp 2) rfl w.heap.size rfl 113 (placeCells (flipped bs l) (!t)) (0, 0) _ hs Try.underlying113 rfl size_place ?_) | (refine wpList_store_whole rfl 113 (.tmp 4) (.tmp 29) rfl (w.heap.size + 1 + 1) (placeCells (flipped bs l) (!t)) rfl rfl 113 (placeCells [] false) hg2 size_place rfl (place_one _ _) ?_; intro w2 hw2 ho2))
      have hb2 := ho2.below hbb (by omega)
      obtain ⟨r0, r1, r2, r3, r4, r5, r6, r7, r8⟩ := place_cells hw2
      refine bodyPost_ret (v := .agg (placeCells (flipped bs l) (!t))) (by simp [results, Try.results147, go_sem, r0, r1, r2, r3, r4, r5, r6, r7, r8, placeCells]) rfl ⟨rfl, hb2⟩
end Go.Proofs.Ytkocompjjogciaa

namespace Go.Proofs.Ytkocompjjogciaa
open Go.RowKit

theorem Fresh.turn {w : World} {lo hi k : Nat} {ty : TypeId} {A : Option Addr} {xs : List Value} (hf : Fresh w lo hi ty A xs) (hk : k < xs.length) :
    ∃ g u, A = some ⟨g, 0, none⟩ ∧ lo ≤ g ∧ g < hi ∧ g < w.heap.size ∧ w.cell? ⟨g, k, none⟩ = some u ∧ w.frozen? ⟨g, k, none⟩ = false ∧ ∀ v, Fresh (w.setCell ⟨g, k, none⟩ v) lo hi ty A (xs.set k v) := by
  rcases hf with rfl | ⟨g, cs, hA, h1, h2, hw, h3, h4⟩
  · simp at hk
  · refine ⟨g, cs[k]'(by omega), hA, h1, h2, hw.lt, (hw.cell k).trans (by simp), hw.open_ k, fun v => .inr ⟨g, _, hA, h1, h2, hw.set_ k v, by simpa using h3, ?_⟩⟩
    rw [List.length_set, Array.toList_setIfInBounds, ← h4, List.take_set, List.length_take]
    congr 2
    simp only [Array.length_toList]
    omega

/-- What stands behind the model's copy of the state. -/
def CrossMid (m : Nat) (bs : List Bool) (t : Bool) (b o d : Nat) (w : World) (v : Value) (wx : World) : Prop :=
  ∃ (g c lo hi : Nat) (A : Option Addr), v = .pointer (some ⟨g, 0, none⟩) ∧ w.heap.size + 1 + 1 ≤ g ∧ w.heap.size + 1 + 1 ≤ lo ∧ (g < lo ∨ hi ≤ g) ∧ hi ≤ wx.heap.size ∧ Whole wx g 38 #[.slice A m c, .bool (!t)] ∧ Fresh wx lo hi 4 A (bits bs) ∧ Whole wx w.heap.size 38 #[.slice (some ⟨b, o, none⟩) m d, .bool t] ∧ Whole wx (w.heap.size + 1) 38 #[.slice none 0 0, .bool false] ∧ Below w.heap.size w wx

set_option maxHeartbeats 3200000 in
theorem paCross_any (b o m d : Nat) (D : Option Addr) (q z : Nat) (bs : List Bool) (l : List Int) (t : Bool) (w : World) (hB : ∀ j u, (bits bs)[j]? = some u → w.cell? ⟨b, o + j, none⟩ = some u) (hy : bs.length = m) (hm0 : 0 < m) (hm : m ≤ 1048576)
    (hD : Holds w D (nums l)) (hz : l.length = q) (hq : q ≤ 9223372036854775807) (hl : StepsTo l (m - 1) l.length) :
    Calls Try.prog 86 #[.agg #[.slice (some ⟨b, o, none⟩) m d, .bool t], .slice D q z] w (StateRes (flipped bs l) (!t) w) := by
  obtain ⟨i0, hi, hz0, hz1, hz2⟩ := info_parts info_bool
  have HI := Lib.hid hi
  have HZ0 := Lib.hid hz0
  have HZ1 := Lib.hid hz1
  have HZ2 := Lib.hid hz2
  have HB := Lib.hid hB
  have HY := Lib.hid hy
  have HL := Lib.hid hl
  have HZ := Lib.hid hz
  have hp := (Whole.fresh w 38 #[.slice (some ⟨b, o, none⟩) m d, .bool t]).alloc (.cells #[.slice none 0 0, .bool false] 38)
  obtain ⟨c0, c1, -, -⟩ := hp.two
  clear hi hz0 hz1 hz2 hB hy hl hz
  have hB1 : ∀ j u, (bits bs)[j]? = some u → World.cell? (World.drew (((w.alloc (.cells #[.slice (some ⟨b, o, none⟩) m d, .bool t] 38)).alloc (.cells #[.slice none 0 0, .bool false] 38)).alloc (.cells #[] 4))) ((⟨b, o, none⟩ : Addr).add j) = some u := fun j u hu => by
    rw [show (⟨b, o, none⟩ : Addr).add j = ⟨b, o + j, none⟩ from by unfold Addr.add; split <;> simp_all]
    have h := HB.out j u hu
    rw [← h]
    exact (below3 w _ _ _).cell (p := ⟨b, o + j, none⟩) (block_lt_of_cell h)
  have hB2 : ∀ j u, (bits bs)[j]? = some u → World.cell? (World.drew ((((w.alloc (.cells #[.slice (some ⟨b, o, none⟩) m d, .bool t] 38)).alloc (.cells #[.slice none 0 0, .bool false] 38)).alloc (.cells #[] 4)).alloc (.cells #[.slice none 0 0, .bool false] 38))) ((⟨b, o, none⟩ : Addr).add j) = some u := fun j u hu => by
    rw [show (⟨b, o, none⟩ : Addr).add j = ⟨b, o + j, none⟩ from by unfold Addr.add; split <;> simp_all]
    have h := HB.out j u hu
    rw [← h]
    exact (below4 w _ _ _ _).cell (p := ⟨b, o + j, none⟩) (block_lt_of_cell h)
  have hB3 : ∀ j u, (bits bs)[j]? = some u → World.cell? (World.drew ((((w.alloc (.cells #[.slice (some ⟨b, o, none⟩) m d, .bool t] 38)).alloc (.cells #[.slice none 0 0, .bool false] 38)).alloc (.cells #[.slice none 0 0, .bool false] 38)).alloc (.cells #[] 4))) ((⟨b, o, none⟩ : Addr).add j) = some u := fun j u hu => by
    rw [show (⟨b, o, none⟩ : Addr).add j = ⟨b, o + j, none⟩ from by unfold Addr.add; split <;> simp_all]
    have h := HB.out j u hu
    rw [← h]
    exact (below4 w _ _ _ _).cell (p := ⟨b, o + j, none⟩) (block_lt_of_cell h)
  have HN3 := Lib.hid hB3
  have HN1 := Lib.hid hB1
  have HN2 := Lib.hid hB2
  have HLEN := Lib.hid (show (bits bs).length = m * 1 by rw [bits_len, HY.out, Nat.mul_one])
  have HONE := Lib.hid (bits_one bs)
  have HP1 := Lib.hid (hp.alloc (.cells #[] 4)).drew
  have HP2 := Lib.hid ((hp.alloc (.cells #[] 4)).alloc (.cells #[.slice none 0 0, .bool false] 38)).drew
  have HP3 := Lib.hid ((hp.alloc (.cells #[.slice none 0 0, .bool false] 38)).alloc (.cells #[] 4)).drew
  have hr := Whole.fresh (w.alloc (.cells #[.slice (some ⟨b, o, none⟩) m d, .bool t] 38)) 38 #[.slice none 0 0, .bool false]
  rw [World.size_alloc] at hr
  have HR1 := Lib.hid (hr.alloc (.cells #[] 4)).drew
  have HR2 := Lib.hid ((hr.alloc (.cells #[] 4)).alloc (.cells #[.slice none 0 0, .bool false] 38)).drew
  have HR3 := Lib.hid ((hr.alloc (.cells #[.slice none 0 0, .bool false] 38)).alloc (.cells #[] 4)).drew
  have hq3 := (Whole.fresh ((w.alloc (.cells #[.slice (some ⟨b, o, none⟩) m d, .bool t] 38)).alloc (.cells #[.slice none 0 0, .bool false] 38)) 38 #[.slice none 0 0, .bool false]).alloc (.cells #[] 4)
  simp only [World.size_alloc] at hq3
  have HQ3 := Lib.hid hq3.drew
  have HB3 := Lib.hid ((below4 w (.cells #[.slice (some ⟨b, o, none⟩) m d, .bool t] 38) (.cells #[.slice none 0 0, .bool false] 38) (.cells #[.slice none 0 0, .bool false] 38) (.cells #[] 4)).drew)
  have hq2 := Whole.fresh (((w.alloc (.cells #[.slice (some ⟨b, o, none⟩) m d, .bool t] 38)).alloc (.cells #[.slice none 0 0, .bool false] 38)).alloc (.cells #[] 4)) 38 #[.slice none 0 0, .bool false]
  simp only [World.size_alloc] at hq2
  have HQ2 := Lib.hid hq2.drew
  have HB1 := Lib.hid ((below3 w (.cells #[.slice (some ⟨b, o, none⟩) m d, .bool t] 38) (.cells #[.slice none 0 0, .bool false] 38) (.cells #[] 4)).drew)
  have HB2 := Lib.hid ((below4 w (.cells #[.slice (some ⟨b, o, none⟩) m d, .bool t] 38) (.cells #[.slice none 0 0, .bool false] 38) (.cells #[] 4) (.cells #[.slice none 0 0, .bool false] 38)).drew)
  clear hB1 hB2 hB3 hp hr hq2 hq3
  go_enter Try.func86, Try.ntmps86
  go_upto_region 1 with fail
  go_cut [5] (fun s5 wx => CrossMid m bs t b o d w s5 wx)
  case first =>
    go_region_law (first | (refine step_append_grows rfl (.tmp 8) (.tmp 10) 25 rfl 4 i0 (.bool false) 1 1 Try.underlying25 HI.out HZ0.out HZ1.out HZ2.out rfl (by decide) (some ⟨w.heap.size + 1 + 1, 0, none⟩) 0 0 [] rfl (by intro h; cases h) rfl (by intro x hx j u hu; simp at hu) ⟨b, o, none⟩ m d (bits bs) rfl HLEN.out HN1.out HONE.out (by omega) (by unfold maxLen; omega) (by omega) ?_; intro v' w1 hown1 hg1; simp only [Nat.zero_add, List.nil_append] at hown1; obtain ⟨A, c, hv', hf⟩ := Fresh.of_own hown1 (Nat.le_refl _); subst hv'; have hp1 : Whole w1 w.heap.size 38 #[.slice (some ⟨b, o, none⟩) m d, .bool t] := (hg1.block _ HP1.out.lt (fun e => by cases e)).trans HP1.out; have hr1 : Whole w1 (w.heap.size + 1) 38 #[.slice none 0 0, .bool false] := (hg1.block _ HR1.out.lt (fun e => by cases e)).trans HR1.out; obtain ⟨k0, k1, -, -⟩ := hp1.two; have hbl := HB1.out.grown hg1 (by simp; omega) (fun k e => by cases e); obtain ⟨k2, k3, -, -⟩ := (hp1.alloc (.cells #[.slice none 0 0, .bool false] 38)).two; have tok1 : True := trivial; clear hown1) | (refine step_append_grows rfl (.tmp 8) (.tmp 10) 25 rfl 4 i0 (.bool false) 1 1 Try.underlying25 HI.out HZ0.out HZ1.out HZ2.out rfl (by decide) (some ⟨w.heap.size + 1 + 1, 0, none⟩) 0 0 [] rfl (by intro h; cases h) rfl (by intro x hx j u hu; simp at hu) ⟨b, o, none⟩ m d (bits bs) rfl HLEN.out HN2.out HONE.out (by omega) (by unfold maxLen; omega) (by omega) ?_; intro v' w1 hown1 hg1; simp only [Nat.zero_add, List.nil_append] at hown1; obtain ⟨A, c, hv', hf⟩ := Fresh.of_own hown1 (Nat.le_refl _); subst hv'; have hp1 : Whole w1 w.heap.size 38 #[.slice (some ⟨b, o, none⟩) m d, .bool t] := (hg1.block _ HP2.out.lt (fun e => by cases e)).trans HP2.out; have hr1 : Whole w1 (w.heap.size + 1) 38 #[.slice none 0 0, .bool false] := (hg1.block _ HR2.out.lt (fun e => by cases e)).trans HR2.out; obtain ⟨k0, k1, -, -⟩ := hp1.two; have hbl := HB2.out.grown hg1 (by simp; omega) (fun k e => by cases e); have hq1 : Whole w1 (w.heap.size + 1 + 1 + 1) 38 #[.slice none 0 0, .bool false] := (hg1.block _ HQ2.out.lt (fun e => by cases e)).trans HQ2.out; obtain ⟨k4, k5, k6, k7⟩ := hq1.two; have tok2 : True := trivial; clear hown1) | (refine step_append_grows rfl (.tmp 8) (.tmp 10) 25 rfl 4 i0 (.bool false) 1 1 Try.underlying25 HI.out HZ0.out HZ1.out HZ2.out rfl (by decide) (some ⟨w.heap.size + 1 + 1 + 1, 0, none⟩) 0 0 [] rfl (by intro h; cases h) rfl (by intro x hx j u hu; simp at hu) ⟨b, o, none⟩ m d (bits bs) rfl HLEN.out HN1.out HONE.out (by omega) (by unfold maxLen; omega) (by omega) ?_; intro v' w1 hown1 hg1; simp only [Nat.zero_add, List.nil_append] at hown1; obtain ⟨A, c, hv', hf⟩ := Fresh.of_own hown1 (Nat.le_refl _); subst hv'; have hp1 : Whole w1 w.heap.size 38 #[.slice (some ⟨b, o, none⟩) m d, .bool t] := (hg1.block _ HP1.out.lt (fun e => by cases e)).trans HP1.out; have hr1 : Whole w1 (w.heap.size + 1) 38 #[.slice none 0 0, .bool false] := (hg1.block _ HR1.out.lt (fun e => by cases e)).trans HR1.out; obtain ⟨k0, k1, -, -⟩ := hp1.two; have hbl := HB1.out.grown hg1 (by simp; omega) (fun k e => by cases e); obtain ⟨k2, k3, -, -⟩ := (hp1.alloc (.cells #[.slice none 0 0, .bool false] 38)).two; have tok1 : True := trivial; clear hown1) | (refine step_append_grows rfl (.tmp 8) (.tmp 10) 25 rfl 4 i0 (.bool false) 1 1 Try.underlying25 HI.out HZ0.out HZ1.out HZ2.out rfl (by decide) (some ⟨w.heap.size + 1 + 1 + 1, 0, none⟩) 0 0 [] rfl (by intro h; cases h) rfl (by intro x hx j u hu; simp at hu) ⟨b, o, none⟩ m d (bits bs) rfl HLEN.out HN3.out HONE.out (by omega) (by unfold maxLen; omega) (by omega) ?_; intro v' w1 hown1 hg1; simp only [Nat.zero_add, List.nil_append] at hown1; obtain ⟨A, c, hv', hf⟩ := Fresh.of_own hown1 (Nat.le_refl _); subst hv'; have hp1 : Whole w1 w.heap.size 38 #[.slice (some ⟨b, o, none⟩) m d, .bool t] := (hg1.block _ HP3.out.lt (fun e => by cases e)).trans HP3.out; have hr1 : Whole w1 (w.heap.size + 1) 38 #[.slice none 0 0, .bool false] := (hg1.block _ HR3.out.lt (fun e => by cases e)).trans HR3.out; obtain ⟨k0, k1, -, -⟩ := hp1.two; have hbl := HB3.out.grown hg1 (by simp; omega) (fun k e => by cases e); have hq1 : Whole w1 (w.heap.size + 1 + 1) 38 #[.slice none 0 0, .bool false] := (hg1.block _ HQ3.out.lt (fun e => by cases e)).trans HQ3.out; obtain ⟨k4, k5, k6, k7⟩ := hq1.two; have tok3 : True := trivial; clear hown1))
    all_goals (clear HN1 HN2 HN3 HP1 HP2 HP3 HR1 HR2 HR3 HQ2 HQ3 HB1 HB2 HB3 HLEN HONE HI HZ0 HZ1 HZ2 HB)
    all_goals (go_wp2_with fail; go_meet)
    all_goals (have hr1l := hr1.lt)
    all_goals (first | (have _t := tok1; exact ⟨w1.heap.size, c, _, w1.heap.size, A, rfl, by omega, by simp, .inr (Nat.le_refl _), by simp, Whole.fresh _ _ _, hf.alloc _, hp1.alloc _, hr1.alloc _, hbl.alloc hbl.size _⟩) | (have _t := tok2; exact ⟨w.heap.size + 1 + 1 + 1, c, _, w1.heap.size, A, rfl, by omega, by simp, .inl (by simp), by simp [World.setCell], (hq1.set_ 0 _).set_ 1 _, (hf.set_out (.inl (by simp))).set_out (.inl (by simp)), (hp1.off (by omega)).off (by omega), (hr1.off (by omega)).off (by omega), below_set (below_set hbl (by omega)) (by omega)⟩) | (have _t := tok3; exact ⟨w.heap.size + 1 + 1, c, _, w1.heap.size, A, rfl, by omega, by simp, .inl (by simp), by simp [World.setCell], (hq1.set_ 0 _).set_ 1 _, (hf.set_out (.inl (by simp))).set_out (.inl (by simp)), (hp1.off (by omega)).off (by omega), (hr1.off (by omega)).off (by omega), below_set (below_set hbl (by omega)) (by omega)⟩))
  case rest =>
    clear HN1 HN2 HN3 HP1 HP2 HP3 HR1 HR2 HR3 HQ2 HQ3 HB1 HB2 HB3 HLEN HONE HI HZ0 HZ1 HZ2 c0 c1
    obtain ⟨g, c, lo, hi, A, rfl, hg, hlo, hd, hhi, gw, hf, gp, gr, hb⟩ := hcut
    go_wp2
    have hF0 : Fresh wc lo hi 4 A (bits (flipped bs (l.take 0))) := by rw [List.take_zero, flipped_nil]; exact hf
    go_loopw [18] (fun i wr => ∃ k : Nat, k ≤ q ∧ i = .int .i64 k ∧ Whole wr g 38 #[.slice A m c, .bool (!t)] ∧ Fresh wr lo hi 4 A (bits (flipped bs (l.take k))) ∧ Whole wr w.heap.size 38 #[.slice (some ⟨b, o, none⟩) m d, .bool t] ∧ Whole wr (w.heap.size + 1) 38 #[.slice none 0 0, .bool false] ∧ Below w.heap.size w wr ∧ hi ≤ wr.heap.size) (fun i _ => q - (intOf i).toNat)
    case atStart => exact ⟨0, Nat.zero_le _, rfl, gw, hF0, gp, gr, hb, hhi⟩
    case round =>
      clear gw hf gp gr hb hF0 hhi
      obtain ⟨k, hk, rfl, gw, hf, gp, gr, hb, hhi⟩ := hrel
      by_cases hlt : k < q
      · have hkl : k < l.length := by have := HZ.out; omega
        obtain ⟨b1, o1, rfl, hbl, hc⟩ := (hD.below hb).look (k := k) (by simpa [nums] using hkl)
        simp only [nums, List.getElem_map] at hc
        have hst := HL.out k hkl
        have hlow := hst.1
        have hhigh := hst.2.1
        rw [getD_at l hkl] at hlow hhigh
        have hix : (l[k]).toNat < bs.length := by have := HY.out; omega
        have hup : l[k] < m := by have := HY.out; omega
        obtain ⟨g1, u1, rfl, hg1, hg1', hg1l, hcell, hfr, hturn⟩ := hf.turn (k := (l[k]).toNat) (by rw [bits_len, flipped_len]; exact hix)
        have hblk := block_lt_of_cell (HB.out (l[k]).toNat _ (List.getElem?_eq_getElem (by rw [bits_len]; exact hix)))
        have hsrc : wr.cell? ⟨b, o + (l[k]).toNat, none⟩ = some (.bool (bs.getD (l[k]).toNat false)) := by
          rw [hb.cell (p := ⟨b, o + (l[k]).toNat, none⟩) hblk]
          refine (HB.out (l[k]).toNat _ ?_)
          simp [bits, hix]
        have hgd : bs.getD (l[k]).toNat false = bs[(l[k]).toNat] := by simp [hix]
        have hnx := flipped_next bs hkl hlow
        rw [hgd] at hsrc hnx
        have HT := Lib.hid (hturn (.bool (!(bs[(l[k]).toNat]))))
        have HNX := Lib.hid hnx
        obtain ⟨a0, a1, -, -⟩ := gw.two
        obtain ⟨p0, p1, -, -⟩ := gp.two
        have GW := Lib.hid gw
        have GP := Lib.hid gp
        have GR := Lib.hid gr
        clear hst hhigh hf hturn gw gp gr hgd hnx
        go_wp2
        go_region
        all_goals
          go_wp2
          go_roundw
          case rel => exact ⟨k + 1, by omega, by go_num, (GW.out.off (by omega)).drew, by rw [← HNX.out]; have h := HT.out.drew; simpa [bits, List.map_set] using h, (GP.out.off (by omega)).drew, (GR.out.off (by omega)).drew, (below_set hb (by omega)).drew, by simpa [World.setCell] using hhi⟩
          case measure => simp [intOf]; omega
      · have hkq : l.take k = l := List.take_of_length_le (by have := HZ.out; omega)
        rw [hkq] at hf
        have HF := Lib.hid ((hf.set_out (b := w.heap.size + 1) (o := 0) (u := .slice A m c) (.inl (by omega))).set_out (b := w.heap.size + 1) (o := 1) (u := .bool (!t)) (.inl (by omega)))
        have HS := Lib.hid (below_set (o := 1) (u := .bool (!t)) (below_set (o := 0) (u := .slice A m c) hb (show w.heap.size ≤ w.heap.size + 1 by omega)) (show w.heap.size ≤ w.heap.size + 1 by omega))
        obtain ⟨a0, a1, -, -⟩ := gw.two
        obtain ⟨r0, r1, f0, f1⟩ := gr.two
        have hrl := gr.lt
        clear hkq hf
        go_wp2
        refine bodyPost_ret (v := .agg #[.slice A m c, .bool (!t)]) (by simp [results, Try.results86, go_sem, r0, r1]) rfl ⟨A, c, by rw [flipped_len, HY.out], ?_, HS.out⟩
        exact HF.out.more (by omega) (by simpa [World.setCell] using hhi)
end Go.Proofs.Ytkocompjjogciaa

namespace Go.Proofs.Ytkocompjjogciaa
open Go.RowKit

theorem Holds.spot {w : World} {A : Option Addr} {xs : List Value} (h : Holds w A xs) (h0 : 0 < xs.length) : ∃ b o, A = some ⟨b, o, none⟩ ∧ b < w.heap.size ∧ ∀ j u, xs[j]? = some u → w.cell? ⟨b, o + j, none⟩ = some u := by
  rcases h with rfl | h
  · simp at h0
  · exact h
/-- The places lie in a block that is old or new, but none of the call's own first three. -/
def Apart (B : Nat) (w : World) (A : Option Addr) (xs : List Value) : Prop := ∃ b o, A = some ⟨b, o, none⟩ ∧ b < w.heap.size ∧ (b < B ∨ B + 1 + 1 + 1 ≤ b) ∧ ∀ j u, xs[j]? = some u → w.cell? ⟨b, o + j, none⟩ = some u
theorem Apart.holds {B : Nat} {w : World} {A : Option Addr} {xs : List Value} (h : Apart B w A xs) : Holds w A xs := by
  obtain ⟨b, o, hA, hb, -, hc⟩ := h
  exact .inr ⟨b, o, hA, hb, hc⟩
theorem Apart.below {B : Nat} {w w' : World} {A : Option Addr} {xs : List Value} (h : Apart B w A xs) (hb : Below w.heap.size w w') : Apart B w' A xs := by
  obtain ⟨b, o, hA, hl, hd, hc⟩ := h
  exact ⟨b, o, hA, Nat.lt_of_lt_of_le hl hb.size, hd, fun j u hu => (hb.cell (p := ⟨b, o + j, none⟩) hl).trans (hc j u hu)⟩
theorem Apart.set {B g i : Nat} {w : World} {A : Option Addr} {xs : List Value} (h : Apart B w A xs) (hg : B ≤ g ∧ g ≤ B + 1 + 1) (v : Value) : Apart B (w.setCell ⟨g, i, none⟩ v) A xs := by
  obtain ⟨b, o, hA, hl, hd, hc⟩ := h
  refine ⟨b, o, hA, by simpa [World.setCell] using hl, hd, fun j u hu => ?_⟩
  have h1 := hc j u hu
  have h2 := Below.heap_setCell w ⟨g, i, none⟩ v b (by show b ≠ g; omega)
  simp only [World.cell?] at h1 ⊢
  rw [h2]
  exact h1

/-- What paPlay hands back. -/
def PlayPost (n : Nat) (s : Int) (bs : List Bool) (t : Bool) (ls : List (List Int)) (m : Nat) (w : World) (e : Ending) (w' : World) : Prop :=
  ∃ (A : Option Addr) (c : Nat), e = .returned (.tuple #[.agg #[.slice A m c, .bool (ended n s bs t ls).2], .int .i64 (made n s bs t ls)]) ∧ Holds w' A (bits (ended n s bs t ls).1) ∧ Below w.heap.size w w'

theorem rowNums_get {rs : List RowV} {k : Nat} (hk : k < rs.length) : (rowNums rs)[k]'(by rw [rowNums_len]; exact hk) = rs[k].xs := by simp [rowNums]

end Go.Proofs.Ytkocompjjogciaa

namespace Go.Proofs.Ytkocompjjogciaa
open Go.RowKit

end Go.Proofs.Ytkocompjjogciaa

namespace Go.Proofs.Ytkocompjjogciaa
open Go.RowKit

def hasK (l : List Int) (x : Int) : Bool := l.contains x

set_option maxHeartbeats 800000 in
theorem l1Has_any (A : Option Addr) (n c : Nat) (l : List Int) (x : Int) (w : World) (hA : Holds w A (nums l)) (hx : l.length = n) (hn : n ≤ 1048576) :
    Calls Try.prog 111 #[.slice A n c, .int .i64 x] w fun e w' => e = .returned (.bool (hasK l x)) ∧ w = w' := by
  subst hx
  go_enter Try.func111, Try.ntmps111
  go_wp2
  go_loop [9] (fun i => ∃ j : Nat, j ≤ l.length ∧ i = .int .i64 j ∧ ∀ q (hq : q < l.length), q < j → l[q] ≠ x) (fun i => l.length - (intOf i).toNat)
  case atStart => exact ⟨0, Nat.zero_le _, rfl, fun q _ h => by omega⟩
  case round =>
    obtain ⟨j, hj, rfl, hs⟩ := hrel
    by_cases hlt : j < l.length
    · obtain ⟨b, o, rfl, hb, hc⟩ := hA.look (k := j) (by simpa [nums] using hlt)
      simp only [nums, List.getElem_map] at hc
      by_cases he : l[j] = x
      · have HQ : Hid (hasK l x = true) := by show l.contains x = _; rw [List.contains_iff_mem, ← he]; exact List.getElem_mem hlt
        have hbe : (l[j] == x) = true := by simp [he]
        clear he hs
        go_wp2
        go_ret
        exact ⟨ret_of (by rw [HQ.out]; rfl), rfl⟩
      · have hbe : (l[j] == x) = false := by simp [he]
        have HE := Lib.hid he
        have HS := Lib.hid hs
        clear he hs
        go_wp2
        go_round
        case rel => exact ⟨j + 1, by omega, by go_num, fun q hq h => by
          rcases Nat.lt_succ_iff_lt_or_eq.1 h with h | rfl
          · exact HS.out q hq h
          · exact HE.out⟩
        case measure => simp [intOf]; omega
    · have HQ : Hid (hasK l x = false) := by
        show l.contains x = _
        rw [Bool.eq_false_iff]
        intro h
        obtain ⟨q, hq, he⟩ := List.getElem_of_mem (List.contains_iff_mem.1 h)
        exact hs q hq (by omega) he
      clear hs
      go_wp2
      go_ret
      exact ⟨ret_of (by rw [HQ.out]; rfl), rfl⟩

def NoneI (bs : List Int) (t : Int) (k : Nat) : Prop := ∀ j (h : j < bs.length), j < k → bs[j] ≠ t
theorem NoneI.next {bs : List Int} {t : Int} {k : Nat} (h : NoneI bs t k) (hk : k < bs.length) (hne : bs[k] ≠ t) : NoneI bs t (k + 1) := fun j hj hlt => by
  rcases (show j < k ∨ j = k by omega) with h1 | h1
  · exact h j hj h1
  · subst h1
    exact hne
def IndexI (bs : List Int) (t : Int) (w : World) (e : Ending) (w' : World) : Prop := ∃ r : Int, e = .returned (.int .i64 r) ∧ decide (0 ≤ r) = bs.any (· == t) ∧ w = w'

end Go.Proofs.Ytkocompjjogciaa

namespace Go.Proofs.Ytkocompjjogciaa
open Go.RowKit

/-- The first place of a number. -/
def IndexF (bs : List Int) (t : Int) (w : World) (e : Ending) (w' : World) : Prop := ∃ (r : Nat) (h : r < bs.length), e = .returned (.int .i64 (r : Int)) ∧ bs[r] = t ∧ NoneI bs t r ∧ w = w'

theorem leastOf_le {l : List Int} {x : Int} (hx : x ∈ l) : leastOf l ≤ x :=
  (le_leastOf (List.ne_nil_of_mem hx) _).1 (Int.le_refl _) x hx
theorem leastOf_mem {l : List Int} (h : l ≠ []) : leastOf l ∈ l := by
  apply Classical.byContradiction
  intro hn
  have := (le_leastOf h (leastOf l + 1)).2 fun y hy => by
    have h1 := leastOf_le hy
    have h2 : leastOf l ≠ y := fun e => hn (by rw [e]; exact hy)
    omega
  omega
end Go.Proofs.Ytkocompjjogciaa

namespace Go.Proofs.Ytkocompjjogciaa
open Go.RowKit

/-- The place at which a number goes among the first k of a list: behind the last one that is not greater. -/
def spot (l : List Int) (x : Int) : Nat → Nat
  | 0 => 0
  | k + 1 => if x < l.getD k 0 then spot l x k else k + 1
theorem spot_le (l : List Int) (x : Int) : ∀ k, spot l x k ≤ k
  | 0 => Nat.le_refl _
  | k + 1 => by
    rw [spot]
    split
    · have := spot_le l x k; omega
    · omega
theorem spot_down {l : List Int} {x : Int} {k : Nat} (h : x < l.getD k 0) : spot l x (k + 1) = spot l x k := if_pos h
theorem spot_here {l : List Int} {x : Int} {k : Nat} (h : ¬ x < l.getD k 0) : spot l x (k + 1) = k + 1 := if_neg h
def ins (l : List Int) (x : Int) : List Int := (l.take (spot l x l.length) ++ [x]) ++ l.drop (spot l x l.length)
theorem ins_len (l : List Int) (x : Int) : (ins l x).length = l.length + 1 := by
  have := spot_le l x l.length
  simp [ins]
  omega
def insTo (xs : List Int) (j : Nat) : List Int := (xs.take j).foldl ins []
theorem insTo_next {xs : List Int} {j : Nat} (h : j < xs.length) : insTo xs (j + 1) = ins (insTo xs j) xs[j] := by
  rw [insTo, List.take_succ_eq_append_getElem h, List.foldl_append]
  rfl
theorem insTo_len (xs : List Int) : ∀ {j : Nat}, j ≤ xs.length → (insTo xs j).length = j
  | 0, _ => rfl
  | j + 1, h => by rw [insTo_next h, ins_len, insTo_len xs (by omega)]
theorem own_lower {w : World} {base base' size : Nat} {e : TypeId} {v : Value} {n : Nat} {xs : List Value} (h : w.ownsRow base e size v n xs) (hb : base' ≤ base) : w.ownsRow base' e size v n xs := by
  obtain ⟨hl, h | ⟨g, cap, cur, hv, hg, r⟩⟩ := h
  · exact ⟨hl, .inl h⟩
  · exact ⟨hl, .inr ⟨g, cap, cur, hv, Nat.le_trans hb hg, r⟩⟩
theorem own_cells {w : World} {base : Nat} {e : TypeId} {g n c : Nat} {xs : List Value} (h : w.ownsRow base e 1 (.slice (some ⟨g, 0, none⟩) n c) n xs) : g < w.heap.size ∧ base ≤ g ∧ ∀ j u, xs[j]? = some u → w.cell? ⟨g, j, none⟩ = some u := by
  obtain ⟨hl, ⟨hv, -⟩ | ⟨g', cap, cur, hv, hg, hh, h1, h2, h3, h4⟩⟩ := h
  · cases hv
  · obtain ⟨rfl, rfl⟩ : g = g' ∧ c = cap := by simpa using hv
    have hw : Whole w g e cur := hh
    refine ⟨hw.lt, hg, fun j u hu => ?_⟩
    have hj : j < xs.length := (List.getElem?_eq_some_iff.1 hu).1
    rw [hw.cell j, ← hu]
    rw [hl] at hj
    have hj' : j < n := by omega
    have := congrArg (fun l : List Value => l[j]?) h4
    simpa [List.getElem?_take, hj, hj'] using this
theorem own_below {w w' : World} {base : Nat} {e : TypeId} {size : Nat} {v : Value} {n : Nat} {xs : List Value} (h : w.ownsRow base e size v n xs) (hb : Below w.heap.size w w') : w'.ownsRow base e size v n xs := by
  obtain ⟨hl, h | ⟨g, cap, cur, hv, hg, hh, r⟩⟩ := h
  · exact ⟨hl, .inl h⟩
  · exact ⟨hl, .inr ⟨g, cap, cur, hv, hg, (hb.block g (Array.getElem?_eq_some_iff.1 hh).1).trans hh, r⟩⟩

theorem cell_grown {w w' : World} {row : Option Nat} {g i : Nat} (h : w.grownBy w' row) (hl : g < w.heap.size) (hn : row ≠ some g) : w'.cell? ⟨g, i, none⟩ = w.cell? ⟨g, i, none⟩ := by
  have h1 := h.block g hl (fun e => hn e.symm)
  simp only [World.cell?, h1]

end Go.Proofs.Ytkocompjjogciaa

namespace Go.Proofs.Ytkocompjjogciaa
open Go.RowKit

theorem spot_lowQ {l : List Int} {x : Int} (hs : l.Pairwise (· ≤ ·)) : ∀ {k i : Nat}, k ≤ l.length → i < spot l x k → ∀ (h : i < l.length), l[i] ≤ x
  | 0, i, _, hi, _ => by simp [spot] at hi
  | k + 1, i, hk, hi, h => by
    by_cases hx : x < l.getD k 0
    · rw [spot_down hx] at hi
      exact spot_lowQ hs (by omega) hi h
    · rw [spot_here hx] at hi
      have hkl : k < l.length := by omega
      have hkx : l[k] ≤ x := by
        have : l.getD k 0 = l[k] := by simp [hkl]
        omega
      rcases Nat.lt_or_ge i k with h1 | h1
      · exact Int.le_trans (List.pairwise_iff_getElem.1 hs i k h hkl h1) hkx
      · obtain rfl : i = k := by omega
        exact hkx
theorem spot_highQ {l : List Int} {x : Int} : ∀ {k i : Nat}, spot l x k ≤ i → i < k → ∀ (h : i < l.length), x < l[i]
  | 0, i, _, hi, _ => by omega
  | k + 1, i, hs, hi, h => by
    by_cases hx : x < l.getD k 0
    · rw [spot_down hx] at hs
      rcases Nat.lt_or_ge i k with h1 | h1
      · exact spot_highQ hs h1 h
      · obtain rfl : i = k := by omega
        have : l.getD i 0 = l[i] := by simp [h]
        omega
    · rw [spot_here hx] at hs
      omega
theorem ins_permQ (l : List Int) (x : Int) : (ins l x).Perm (x :: l) := by
  have h := List.perm_middle (a := x) (l₁ := l.take (spot l x l.length)) (l₂ := l.drop (spot l x l.length))
  rw [List.take_append_drop] at h
  simpa [ins] using h
theorem ins_sortedQ {l : List Int} (x : Int) (hs : l.Pairwise (· ≤ ·)) : (ins l x).Pairwise (· ≤ ·) := by
  rw [ins, List.append_assoc, List.pairwise_append]
  refine ⟨hs.sublist (List.take_sublist _ _), ?_, fun a ha b hb => ?_⟩
  · rw [List.singleton_append, List.pairwise_cons]
    refine ⟨fun b hb => ?_, hs.sublist (List.drop_sublist _ _)⟩
    obtain ⟨i, hi, rfl⟩ := List.getElem_of_mem hb
    rw [List.getElem_drop]
    exact Int.le_of_lt (spot_highQ (k := l.length) (by omega) (by simp at hi; omega) (by simp at hi; omega))
  · obtain ⟨i, hi, rfl⟩ := List.getElem_of_mem ha
    rw [List.getElem_take]
    have hip : i < spot l x l.length := by simp at hi; omega
    have hil : i < l.length := by simp at hi; omega
    have hlx := spot_lowQ hs (Nat.le_refl _) hip hil
    rw [List.singleton_append, List.mem_cons] at hb
    rcases hb with rfl | hb
    · exact hlx
    · obtain ⟨j, hj, rfl⟩ := List.getElem_of_mem hb
      rw [List.getElem_drop]
      exact Int.le_of_lt (Int.lt_of_le_of_lt hlx (spot_highQ (k := l.length) (by omega) (by simp at hj; omega) (by simp at hj; omega)))
theorem insTo_sortedQ (xs : List Int) : ∀ {j : Nat}, j ≤ xs.length → (insTo xs j).Pairwise (· ≤ ·) ∧ (insTo xs j).Perm (xs.take j)
  | 0, _ => ⟨List.Pairwise.nil, List.Perm.refl _⟩
  | j + 1, h => by
    obtain ⟨h1, h2⟩ := insTo_sortedQ xs (j := j) (by omega)
    rw [insTo_next h]
    refine ⟨ins_sortedQ _ h1, (ins_permQ _ _).trans ?_⟩
    rw [List.take_succ_eq_append_getElem h]
    exact (h2.cons _).trans (List.perm_append_singleton _ _).symm

/-- The time of a person. -/
def tm (xs : List Int) (k : Int) : Int := xs.getD k.toNat 0
/-- The place at which a person goes among the first k of an order. -/
def spotO (xs o : List Int) (t : Int) (k : Nat) : Nat := spot (o.map (tm xs)) t k
def insO (xs o : List Int) (i t : Int) : List Int := (o.take (spotO xs o t o.length) ++ [i]) ++ o.drop (spotO xs o t o.length)
def ordTo (xs : List Int) (j : Nat) : List Int := (List.range j).foldl (fun o (i : Nat) => insO xs o (i : Int) (tm xs (i : Int))) []
theorem ordTo_next (xs : List Int) (j : Nat) : ordTo xs (j + 1) = insO xs (ordTo xs j) j (tm xs j) := by
  rw [ordTo, List.range_succ, List.foldl_append]
  rfl
theorem spotO_le (xs o : List Int) (t : Int) (k : Nat) : spotO xs o t k ≤ k := spot_le _ _ _
theorem spotO_down {xs o : List Int} {t : Int} {k : Nat} (hk : k < o.length) (h : t < tm xs (o.getD k 0)) : spotO xs o t (k + 1) = spotO xs o t k := by
  refine spot_down ?_
  simpa [hk] using h
theorem spotO_here {xs o : List Int} {t : Int} {k : Nat} (hk : k < o.length) (h : ¬ t < tm xs (o.getD k 0)) : spotO xs o t (k + 1) = k + 1 := by
  refine spot_here ?_
  simpa [hk] using h
theorem insO_len (xs o : List Int) (i t : Int) : (insO xs o i t).length = o.length + 1 := by
  have := spotO_le xs o t o.length
  simp [insO]
  omega
theorem ordTo_len (xs : List Int) : ∀ j, (ordTo xs j).length = j
  | 0 => rfl
  | j + 1 => by rw [ordTo_next, insO_len, ordTo_len xs j]
theorem insO_map {xs o : List Int} {i : Int} : (insO xs o i (tm xs i)).map (tm xs) = ins (o.map (tm xs)) (tm xs i) := by
  simp [insO, ins, spotO]
theorem tm_at {xs : List Int} {j : Nat} (h : j < xs.length) : tm xs (j : Int) = xs[j] := by simp [tm, h]
theorem ordTo_map (xs : List Int) : ∀ {j : Nat}, j ≤ xs.length → (ordTo xs j).map (tm xs) = insTo xs j
  | 0, _ => rfl
  | j + 1, h => by rw [ordTo_next, insO_map, ordTo_map xs (by omega), tm_at (by omega), insTo_next (by omega)]
theorem insO_perm (xs o : List Int) (i t : Int) : (insO xs o i t).Perm (i :: o) := by
  have h := List.perm_middle (a := i) (l₁ := o.take (spotO xs o t o.length)) (l₂ := o.drop (spotO xs o t o.length))
  rw [List.take_append_drop] at h
  simpa [insO] using h
theorem ordTo_mem (xs : List Int) : ∀ (j : Nat) (x : Int), x ∈ ordTo xs j ↔ 0 ≤ x ∧ x < j
  | 0, x => by simp [ordTo]; try omega
  | j + 1, x => by
    rw [ordTo_next, (insO_perm _ _ _ _).mem_iff, List.mem_cons, ordTo_mem xs j]
    omega
theorem ordTo_nodup (xs : List Int) : ∀ (j : Nat), (ordTo xs j).Nodup
  | 0 => by simp [ordTo]
  | j + 1 => by
    rw [ordTo_next, (insO_perm _ _ _ _).nodup_iff, List.nodup_cons]
    exact ⟨fun h => by have := (ordTo_mem xs j _).1 h; omega, ordTo_nodup xs j⟩
/-- The people in their order. -/
def ord (xs : List Int) : List Int := ordTo xs xs.length
theorem ord_len (xs : List Int) : (ord xs).length = xs.length := ordTo_len _ _
theorem ord_sorted (xs : List Int) : ((ord xs).map (tm xs)).Pairwise (· ≤ ·) := by
  rw [ord, ordTo_map xs (Nat.le_refl _)]
  exact (insTo_sortedQ xs (Nat.le_refl _)).1
theorem ord_mem {xs : List Int} {x : Int} (h : x ∈ ord xs) : 0 ≤ x ∧ x < xs.length := (ordTo_mem xs _ x).1 h
theorem ord_nodup (xs : List Int) : (ord xs).Nodup := ordTo_nodup xs _

/-! ### The insertion sort of an array of people with their times -/
abbrev Wk := Int × Int
/-- By the times alone. -/
def wlt (x y : Wk) : Bool := decide (x.2 < y.2)
def mk (xs o : List Int) : List Wk := o.map fun i => (i, tm xs i)
theorem mk_len (xs o : List Int) : (mk xs o).length = o.length := by simp [mk]
theorem mk_app (xs a b : List Int) : mk xs (a ++ b) = mk xs a ++ mk xs b := List.map_append
theorem mk_cons (xs a : List Int) (i : Int) : mk xs (i :: a) = (i, tm xs i) :: mk xs a := rfl
theorem get_list {α : Type} [Inhabited α] (d : Array α) (j : Nat) (x : α) (h : d.toList[j]? = some x) : d[j]! = x := by
  rw [Array.getElem?_toList] at h
  simp [getElem!_def, h]
theorem swp_list {d : Array Wk} {P R : List Wk} {x y : Wk} (h : d.toList = P ++ y :: x :: R) : (Go.Sort.swp d (P.length + 1) P.length).toList = P ++ x :: y :: R := by
  have hy : d[P.length]! = y := get_list _ _ _ (by rw [h]; simp)
  have hx : d[P.length + 1]! = x := get_list _ _ _ (by rw [h, List.getElem?_append_right (by omega)]; simp)
  simp only [Go.Sort.swp, Array.toList_setIfInBounds, hx, hy, h]
  rw [List.set_append_right _ _ (by omega), List.set_append_right _ _ (by omega)]
  simp
theorem inner_list (xs o : List Int) (i t : Int) (R : List Wk) : ∀ (j : Nat) (d : Array Wk), j ≤ o.length → d.toList = mk xs (o.take j) ++ (i, t) :: (mk xs (o.drop j) ++ R) →
    (Go.Sort.insInner wlt 0 j d).toList = mk xs (o.take (spotO xs o t j)) ++ (i, t) :: (mk xs (o.drop (spotO xs o t j)) ++ R)
  | 0, d, _, h => by simpa [Go.Sort.insInner, spotO, spot] using h
  | j + 1, d, hj, h => by
    have hjl : j < o.length := by omega
    have h1 : d.toList = mk xs (o.take j) ++ (o[j], tm xs o[j]) :: (i, t) :: (mk xs (o.drop (j + 1)) ++ R) := by
      rw [h, List.take_succ_eq_append_getElem hjl, mk_app, List.append_assoc]
      rfl
    have hl : (mk xs (o.take j)).length = j := by rw [mk_len]; simp; omega
    have hx : d[j + 1]! = (i, t) := get_list _ _ _ (by rw [h1, List.getElem?_append_right (by omega)]; simp [hl, show j + 1 - j = 1 by omega])
    have hy : d[j]! = (o[j], tm xs o[j]) := get_list _ _ _ (by rw [h1, List.getElem?_append_right (by omega)]; simp [hl])
    have hg : o.getD j 0 = o[j] := by simp [hjl]
    rw [Go.Sort.insInner, hx, hy]
    by_cases hlt : t < tm xs o[j]
    · rw [if_pos (by simp [wlt, hlt]), spotO_down hjl (by rw [hg]; exact hlt)]
      refine inner_list xs o i t R j _ (by omega) ?_
      have := swp_list h1
      rw [hl] at this
      rw [this, List.drop_eq_getElem_cons hjl, mk_cons]
      rfl
    · rw [if_neg (by simp [wlt]; omega), spotO_here hjl (by rw [hg]; exact hlt)]
      exact h
theorem outer_list (xs : List Int) (n : Nat) : ∀ (g i : Nat) (d : Array Wk), n - i ≤ g → i ≤ n → d.toList = mk xs (ordTo xs i) ++ mk xs ((List.range' i (n - i)).map Int.ofNat) →
    (Go.Sort.insOuter wlt 0 n i d).toList = mk xs (ordTo xs n)
  | 0, i, d, hg, hi, h => by
    obtain rfl : i = n := by omega
    rw [Go.Sort.insOuter, if_neg (by omega), h]
    simp [mk]
  | g + 1, i, d, hg, hi, h => by
    by_cases hlt : i < n
    · rw [Go.Sort.insOuter, if_pos hlt]
      refine outer_list xs n g (i + 1) _ (by omega) (by omega) ?_
      have hol := ordTo_len xs i
      obtain ⟨m, hm⟩ : ∃ m, n - i = m + 1 := ⟨n - i - 1, by omega⟩
      have hm' : n - (i + 1) = m := by omega
      have := inner_list xs (ordTo xs i) i (tm xs i) (mk xs ((List.range' (i + 1) m).map Int.ofNat)) i d (by omega) (by
        rw [h, hm, List.range'_succ, List.take_of_length_le (by omega), List.drop_eq_nil_of_le (by omega)]
        simp [mk])
      rw [this, hm', ordTo_next, insO, hol]
      simp [mk]
    · obtain rfl : i = n := by omega
      rw [Go.Sort.insOuter, if_neg (by omega), h]
      simp [mk]
/-- The sort puts the people in their order. -/
theorem sort_list (xs : List Int) (d : Array Wk) (h : d.toList = mk xs ((List.range xs.length).map Int.ofNat)) : (Go.Sort.insertionSort wlt d 0 xs.length).toList = mk xs (ord xs) := by
  rw [Go.Sort.insertionSort]
  cases hn : xs.length with
  | zero =>
    obtain rfl : xs = [] := List.length_eq_zero_iff.1 hn
    rw [Go.Sort.insOuter, if_neg (by simp), h]
    rfl
  | succ n =>
    have := outer_list xs (n + 1) n 1 d (by omega) (by omega) (by
      rw [h, hn, List.range_eq_range', List.range'_succ]
      simp [mk, ordTo, insO, spotO, spot])
    rw [show (0 : Nat) + 1 = 1 from rfl, this, ord, hn]

/-! ### The trips of two at once -/
/-- A trip: the fast one and the slow one. -/
abbrev Pt := Wk × Wk
def wk (W : List Wk) (k : Nat) : Wk := W.getD k (0, 0)
def gainOf (W : List Wk) (k : Nat) : Int := (wk W 0).2 + (wk W k).2 - 2 * (wk W 1).2
def round (f : Bool) (W : List Wk) (k : Nat) : List Pt :=
  if f && decide (0 < gainOf W k) then [(wk W 0, wk W 1), (wk W 0, wk W 0), (wk W k, wk W (k + 1)), (wk W 1, wk W 1)]
  else [(wk W 0, wk W (k + 1)), (wk W 0, wk W 0), (wk W 0, wk W k), (wk W 0, wk W 0)]
def lastT (W : List Wk) : Nat → List Pt
  | 1 => [(wk W 0, wk W 0)]
  | 2 => [(wk W 0, wk W 1)]
  | 3 => [(wk W 0, wk W 1), (wk W 0, wk W 0), (wk W 0, wk W 2)]
  | _ => []
/-- All trips while so many are not over. -/
def tripsT (f : Bool) (W : List Wk) : Nat → List Pt
  | 0 => []
  | 1 => lastT W 1
  | 2 => lastT W 2
  | 3 => lastT W 3
  | k + 4 => round f W (k + 2) ++ tripsT f W (k + 2)
/-- What is gained in the rounds. -/
def gainsT (W : List Wk) : Nat → List Int
  | 0 => []
  | 1 => []
  | 2 => []
  | 3 => []
  | k + 4 => gainOf W (k + 2) :: gainsT W (k + 2)
def isAlone (t : Pt) : Bool := t.1 == t.2
def listT (t : Pt) : List Int := if isAlone t then [t.1.1] else [min t.1.1 t.2.1, max t.1.1 t.2.1]
def timeT (ts : List Pt) : Int := (ts.map fun t => t.2.2).sum

/-- People with their times, in an order. -/
structure GoodW (xs : List Int) (W : List Wk) : Prop where
  own : ∀ k, k < W.length → (wk W k).2 = tm xs (wk W k).1 ∧ 0 ≤ (wk W k).1 ∧ (wk W k).1 < xs.length
  two : ∀ j k, j < k → k < W.length → (wk W j).2 ≤ (wk W k).2 ∧ (wk W j).1 ≠ (wk W k).1
theorem wk_mk {xs o : List Int} {k : Nat} (h : k < o.length) : wk (mk xs o) k = (o[k], tm xs o[k]) := by simp [wk, mk, h]
theorem good_ord (xs : List Int) : GoodW xs (mk xs (ord xs)) := by
  refine ⟨fun k hk => ?_, fun j k hjk hk => ?_⟩
  · rw [mk_len] at hk
    rw [wk_mk hk]
    exact ⟨rfl, ord_mem (List.getElem_mem hk)⟩
  · rw [mk_len] at hk
    rw [wk_mk hk, wk_mk (by omega)]
    constructor
    · have := List.pairwise_iff_getElem.1 (ord_sorted xs) j k (by simp; omega) (by simp; omega) hjk
      simpa using this
    · exact List.pairwise_iff_getElem.1 (ord_nodup xs) j k (by omega) hk hjk
/-- A trip of one or of two people, the slow one behind. -/
def OkT (xs : List Int) (t : Pt) : Prop :=
  (t.1.2 = tm xs t.1.1 ∧ 0 ≤ t.1.1 ∧ t.1.1 < xs.length) ∧ (t.2.2 = tm xs t.2.1 ∧ 0 ≤ t.2.1 ∧ t.2.1 < xs.length) ∧ (t.1 = t.2 ∨ (t.1.1 ≠ t.2.1 ∧ t.1.2 ≤ t.2.2))
theorem GoodW.one {xs : List Int} {W : List Wk} (h : GoodW xs W) {k : Nat} (hk : k < W.length) : OkT xs (wk W k, wk W k) := ⟨h.own k hk, h.own k hk, .inl rfl⟩
theorem GoodW.pair {xs : List Int} {W : List Wk} (h : GoodW xs W) {j k : Nat} (hj : j < k) (hk : k < W.length) : OkT xs (wk W j, wk W k) :=
  ⟨h.own j (by omega), h.own k hk, .inr ⟨(h.two j k hj hk).2, (h.two j k hj hk).1⟩⟩
theorem round_ok {xs : List Int} {W : List Wk} (h : GoodW xs W) (f : Bool) {k : Nat} (h2 : 2 ≤ k) (hk : k + 1 < W.length) : ∀ t ∈ round f W k, OkT xs t := by
  intro t ht
  unfold round at ht
  split at ht <;> simp only [List.mem_cons, List.not_mem_nil, or_false] at ht <;> rcases ht with rfl | rfl | rfl | rfl
  · exact h.pair (by omega) (by omega)
  · exact h.one (by omega)
  · exact h.pair (by omega) (by omega)
  · exact h.one (by omega)
  · exact h.pair (by omega) (by omega)
  · exact h.one (by omega)
  · exact h.pair (by omega) (by omega)
  · exact h.one (by omega)
theorem trips_ok {xs : List Int} {W : List Wk} (h : GoodW xs W) (f : Bool) : ∀ n, n ≤ W.length → ∀ t ∈ tripsT f W n, OkT xs t
  | 0, _ => fun t ht => by simp [tripsT] at ht
  | 1, hn => fun t ht => by simp only [tripsT, lastT, List.mem_cons, List.not_mem_nil, or_false] at ht; subst ht; exact h.one (by omega)
  | 2, hn => fun t ht => by simp only [tripsT, lastT, List.mem_cons, List.not_mem_nil, or_false] at ht; subst ht; exact h.pair (by omega) (by omega)
  | 3, hn => fun t ht => by
    simp only [tripsT, lastT, List.mem_cons, List.not_mem_nil, or_false] at ht
    rcases ht with rfl | rfl | rfl
    · exact h.pair (by omega) (by omega)
    · exact h.one (by omega)
    · exact h.pair (by omega) (by omega)
  | k + 4, hn => fun t ht => by
    rw [tripsT] at ht
    rcases List.mem_append.1 ht with ht | ht
    · exact round_ok h f (by omega) (by omega) t ht
    · exact trips_ok h f (k + 2) (by omega) t ht
theorem round_len (f : Bool) (W : List Wk) (k : Nat) : (round f W k).length = 4 := by unfold round; split <;> rfl
theorem trips_len (f : Bool) (W : List Wk) : ∀ n, (tripsT f W n).length ≤ 2 * n
  | 0 => by simp [tripsT]
  | 1 => by simp [tripsT, lastT]
  | 2 => by simp [tripsT, lastT]
  | 3 => by simp [tripsT, lastT]
  | k + 4 => by
    have := trips_len f W (k + 2)
    rw [tripsT, List.length_append, round_len]
    omega
/-- Every second trip is of one person. -/
theorem trips_alone (f : Bool) (W : List Wk) : ∀ n i (t : Pt), (tripsT f W n)[2 * i + 1]? = some t → isAlone t = true
  | 0, i, t, h => by simp [tripsT] at h
  | 1, i, t, h => by simp [tripsT, lastT] at h
  | 2, i, t, h => by simp [tripsT, lastT] at h
  | 3, i, t, h => by
    match i, h with
    | 0, h => simp [tripsT, lastT] at h; subst h; simp [isAlone]
    | i + 1, h => simp [tripsT, lastT, show 2 * (i + 1) + 1 = 2 * i + 3 by omega] at h
  | k + 4, i, t, h => by
    rw [tripsT] at h
    match i, h with
    | 0, h =>
      rw [List.getElem?_append_left (by rw [round_len]; omega)] at h
      unfold round at h
      split at h <;> · simp at h; subst h; simp [isAlone]
    | 1, h =>
      rw [List.getElem?_append_left (by rw [round_len]; omega)] at h
      unfold round at h
      split at h <;> · simp at h; subst h; simp [isAlone]
    | i + 2, h =>
      rw [List.getElem?_append_right (by rw [round_len]; omega), round_len, show 2 * (i + 2) + 1 - 4 = 2 * i + 1 by omega] at h
      exact trips_alone f W (k + 2) i t h
theorem OkT.steps {xs : List Int} {t : Pt} (h : OkT xs t) : StepsTo (listT t) (xs.length - 1) (listT t).length := by
  obtain ⟨⟨-, a1, a2⟩, ⟨-, b1, b2⟩, h3⟩ := h
  cases hc : isAlone t
  · have hne : t.1.1 ≠ t.2.1 := by
      rcases h3 with h3 | h3
      · rw [isAlone, h3] at hc
        simp at hc
      · exact h3.1
    rw [show listT t = [min t.1.1 t.2.1, max t.1.1 t.2.1] by simp [listT, hc]]
    intro j hj
    match j, hj with
    | 0, _ => simp [Step]; omega
    | 1, _ => simp [Step]; omega
    | j + 2, hj => exact absurd hj (by simp)
  · rw [show listT t = [t.1.1] by simp [listT, hc]]
    intro j hj
    match j, hj with
    | 0, _ => simp [Step]; omega
    | j + 1, hj => simp at hj
end Go.Proofs.Ytkocompjjogciaa

namespace Go.Proofs.Ytkocompjjogciaa
open Go.RowKit

set_option maxHeartbeats 3200000 in
set_option maxRecDepth 100000 in
theorem prOrder_any (A : Option Addr) (n c : Nat) (xs : List Int) (w : World) (hA : Holds w A (nums xs)) (hx : xs.length = n) (hn : n ≤ 1048575) :
    Calls Try.prog 198 #[.slice A n c] w (OwnPost (ordTo xs n) w) := by
  obtain ⟨i0, hi, hz0, hz1, hz2⟩ := info_parts info_int
  have HI := Lib.hid hi
  have HZ0 := Lib.hid hz0
  have HZ1 := Lib.hid hz1
  have HZ2 := Lib.hid hz2
  have HX := Lib.hid hx
  clear hi hz0 hz1 hz2 hx
  go_enter Try.func198, Try.ntmps198
  go_wp2
  go_loopw [3, 10] (fun v i wr => ∃ (j : Nat) (E : Option Addr) (d : Nat), j ≤ n ∧ i = .int .i64 j ∧ v = .slice E j d ∧ wr.ownsRow w.heap.size 3 1 (.slice E j d) j (nums (ordTo xs j)) ∧ Below w.heap.size w wr ∧ (j = 0 → E = none)) (fun _ i _ => n - (intOf i).toNat)
  case atStart => exact ⟨0, none, 0, Nat.zero_le _, rfl, rfl, World.ownsRow_nil _ _ _ _, Below.refl _ _, fun _ => rfl⟩
  case round =>
    obtain ⟨wo, rfl⟩ : ∃ wo : World, wo = wr := ⟨_, rfl⟩
    obtain ⟨j, E, d, hj, rfl, rfl, hown, hb, hnone⟩ := hrel
    by_cases hlt : j < n
    · have hjx : j < xs.length := by have := HX.out; omega
      obtain ⟨b1, o1, rfl, hbl1, hc⟩ := (hA.below hb).look (k := j) (by rw [nums_len]; exact hjx)
      simp only [nums, List.getElem_map] at hc
      rw [← tm_at hjx] at hc
      have HNX := Lib.hid (ordTo_next xs j)
      have HLN := Lib.hid (ordTo_len xs j)
      have HOWN := Lib.hid hown
      have HB := Lib.hid hb
      have hbs := hb.size
      have hpos : E ≠ none → 0 < j := fun he => Nat.pos_of_ne_zero fun h => he (hnone h)
      clear hnone
      rcases own_some hown with ⟨rfl, rfl, rfl⟩ | ⟨g, rfl, hjd⟩
      · -- the first number
        clear hpos
        simp only [Nat.add_zero] at hc
        clear hown hb
        go_wp2
        refine wp_loop_rounds 1 ?_
        rw [rounds_succ]
        go_wp2_with fail
        refine (l1Own_any none 0 0 [] _ (Holds.empty _ _) rfl (by omega) (fun _ => rfl)).mono ?_
        rintro e w1 ⟨E1, c1, rfl, hown1, hb1⟩
        have HO1 := Lib.hid (hown1.alloc (.cells #[.int .i64 0] 3))
        have HNEW := Lib.hid (cells_fresh w1 3 #[.int .i64 0])
        have HONE : Hid (∀ u ∈ [Value.int .i64 0], u.oneCell' = true) := fun u hu => by simp at hu; subst hu; rfl
        have HBB := Lib.hid ((below_then HB.out hb1 HB.out.size).alloc (Nat.le_trans HB.out.size hb1.size) (.cells #[.int .i64 0] 3))
        have hs1 := hb1.size
        clear hown1 hb1
        go_wp2_with (first | (at_builtin; refine wpList_append_own _ rfl (.tmp 36) (.tmp 38) 22 rfl wo.heap.size 3 i0 (.int .i64 0) 1 8 Try.underlying22 HI.out HZ0.out HZ1.out HZ2.out rfl (by decide) _ 0 [] rfl HO1.out ⟨w1.heap.size, 0, none⟩ 1 1 [.int .i64 0] rfl rfl HNEW.out HONE.out (by unfold maxLen; omega) (by omega) (by simp; omega) ?_; intro v2 w2 hown2 hg2 _; obtain ⟨g2, c2, hv2⟩ := own_slice hown2; subst hv2; simp only [Nat.zero_add, List.nil_append] at hown2) | (at_builtin; refine wpList_append_own_none rfl (.tmp 40) (.tmp 43) 22 rfl wo.heap.size 3 i0 1 Try.underlying22 HI.out _ 1 [.int .i64 0] rfl hown2 rfl ?_))
        have HO2 := Lib.hid (own_lower hown2 hbs)
        have HE := Lib.hid (HBB.out.grown hg2 (by simp; omega) (fun k hk => Nat.le_trans hbs (HO1.out.lt k hk).1))
        clear hown2 hg2
        go_roundw
        case rel => exact ⟨1, some ⟨g2, 0, none⟩, c2, by omega, by go_num, rfl, by rw [HNX.out]; exact HO2.out, HE.out, fun h => by omega⟩
        case measure => simp [intOf]; omega
      · have hj0 : 0 < j := hpos (by simp)
        clear hpos
        obtain ⟨hgl, hgb, hcells⟩ := own_cells hown
        have HCE := Lib.hid hcells
        clear hown hb hcells
        go_wp2
        go_loop [6] (fun k => ∃ kk : Nat, kk ≤ j ∧ k = .int .i64 kk ∧ spotO xs (ordTo xs j) (tm xs j) j = spotO xs (ordTo xs j) (tm xs j) kk) (fun k => (intOf k).toNat)
        case atStart => exact ⟨j, Nat.le_refl _, rfl, rfl⟩
        case round =>
          obtain ⟨p, hpj, rfl, hsp⟩ := hrel
          cases p with
          | zero =>
            rw [show spotO xs (ordTo xs j) (tm xs j) 0 = 0 from rfl] at hsp
            have hdne : ¬ d = 0 := by omega
            have HSP := Lib.hid hsp
            have hpd : 0 ≤ d := by omega
            have hp0 : (0 : Int) ≤ ((0 : Nat) : Int) := by omega
            have hpdi : ((0 : Nat) : Int) ≤ ((d : Nat) : Int) := by omega
            have hpji : ((0 : Nat) : Int) ≤ ((j : Nat) : Int) := by omega
            have HTK : Hid (((ordTo xs j).take 0).length = 0) := by show _ = _; have := HLN.out; simp only [List.length_take]; omega
            have HDR : Hid (((ordTo xs j).drop 0).length = j) := by show _ = _; have := HLN.out; simp only [List.length_drop]; omega
            have HDL : Hid ((nums ((ordTo xs j).drop 0)).length = j * 1) := by show _ = _; rw [nums_len, HDR.out, Nat.mul_one]
            have HDO := Lib.hid (ints_one ((ordTo xs j).drop 0))
            have hAl : Holds wo (some ⟨g, 0, none⟩) (nums ((ordTo xs j).take 0)) := by
              refine .inr ⟨g, 0, rfl, hgl, fun i u hu => ?_⟩
              rw [Nat.zero_add]
              refine HCE.out i u ?_
              have hi : i < 0 := by have := (List.getElem?_eq_some_iff.1 hu).1; rw [nums_len, HTK.out] at this; exact this
              first | (exfalso; omega) | (rw [← hu]; simp only [nums, List.map_take, List.getElem?_take, if_pos hi])
            clear hsp
            go_wp2_with fail
            refine (l1Own_any (some ⟨g, 0, none⟩) _ _ ((ordTo xs j).take 0) _ hAl HTK.out (by omega) (fun h => by cases h)).mono ?_
            rintro e w1 ⟨E1, c1, rfl, hown1, hb1⟩
            rw [HTK.out] at hown1 ⊢
            have HO1 := Lib.hid (hown1.alloc (.cells #[.int .i64 j] 3))
            have HNEW := Lib.hid (cells_fresh w1 3 #[.int .i64 j])
            have HONE : Hid (∀ u ∈ [Value.int .i64 j], u.oneCell' = true) := fun u hu => by simp at hu; subst hu; rfl
            have HBB := Lib.hid ((below_then HB.out hb1 HB.out.size).alloc (Nat.le_trans HB.out.size hb1.size) (.cells #[.int .i64 j] 3))
            have HC1 : Hid (∀ i u, (nums (ordTo xs j))[i]? = some u → (w1.alloc (.cells #[.int .i64 j] 3)).cell? ⟨g, i, none⟩ = some u) := fun i u hu => ((World.cell?_alloc_lt w1 _ ⟨g, i, none⟩ (Nat.lt_of_lt_of_le hgl hb1.size)).trans (hb1.cell (p := ⟨g, i, none⟩) hgl)).trans (HCE.out i u hu)
            have hs1 := hb1.size
            clear hown1 hb1
            go_wp2_with (first | (at_builtin; refine wpList_append_own _ rfl (.tmp 36) (.tmp 38) 22 rfl wo.heap.size 3 i0 (.int .i64 0) 1 8 Try.underlying22 HI.out HZ0.out HZ1.out HZ2.out rfl (by decide) _ 0 (nums ((ordTo xs j).take 0)) rfl HO1.out ⟨w1.heap.size, 0, none⟩ 1 1 [.int .i64 j] rfl rfl HNEW.out HONE.out (by unfold maxLen; omega) (by omega) (by simp; omega) ?_; intro v2 w2 hown2 hg2 _; obtain ⟨g2, c2, hv2⟩ := own_slice hown2; subst hv2; have HN2 : Hid (∀ i u, (nums ((ordTo xs j).drop 0))[i]? = some u → w2.cell? ((⟨g, 0, none⟩ : Addr).add i) = some u) := (fun i u hu => by rw [show (⟨g, 0, none⟩ : Addr).add i = ⟨g, 0 + i, none⟩ from by unfold Addr.add; split <;> simp_all]; exact (cell_grown hg2 (by simp; omega) (fun hh => by have := (HO1.out.lt g hh).1; omega)).trans (HC1.out _ u (by rw [← hu]; simp [nums])))) | (at_builtin; refine wpList_append_own _ rfl (.tmp 40) (.tmp 43) 22 rfl wo.heap.size 3 i0 (.int .i64 0) 1 8 Try.underlying22 HI.out HZ0.out HZ1.out HZ2.out rfl (by decide) (.slice (some ⟨g2, 0, none⟩) (0 + 1) c2) _ _ rfl hown2 ⟨g, 0, none⟩ j d (nums ((ordTo xs j).drop 0)) rfl HDL.out HN2.out HDO.out (by unfold maxLen; omega) (by omega) (by have := hg2.size; simp at this; omega) ?_; intro v3 w3 hown3 hg3 _))
            rw [show 0 + 1 + j = j + 1 by omega] at hown3
            obtain ⟨A3, c3, rfl⟩ := own_shape hown3
            have HO3 := Lib.hid (own_lower hown3 hbs)
            have HE := Lib.hid ((HBB.out.grown hg2 (by simp; omega) (fun k hk => Nat.le_trans hbs (HO1.out.lt k hk).1)).grown hg3 (by have := hg2.size; simp at this; omega) (fun k hk => Nat.le_trans hbs (hown2.lt k hk).1))
            have HL3 : Hid ((nums ((ordTo xs j).take 0) ++ [.int .i64 j]) ++ nums ((ordTo xs j).drop 0) = nums (ordTo xs (j + 1))) := by
              show _ = _
              rw [HNX.out, insO, HLN.out, HSP.out]
              simp [nums]
            clear hown2 hown3 hg2 hg3
            go_roundw
            case rel => exact ⟨j + 1, A3, c3, by omega, by go_num, rfl, by rw [← HL3.out]; exact HO3.out, HE.out, fun h => by omega⟩
            case measure => first | (simp [intOf]; done) | (simp [intOf]; omega)
          | succ p =>
            have hpl : p < (ordTo xs j).length := by have := HLN.out; omega
            have hcp := HCE.out p (.int .i64 ((ordTo xs j).getD p 0)) (by simp [nums, hpl])
            have hy0 := (ordTo_mem xs j ((ordTo xs j).getD p 0)).1 (by simp [hpl])
            obtain ⟨y, hy⟩ : ∃ y : Nat, (y : Int) = (ordTo xs j).getD p 0 := ⟨((ordTo xs j).getD p 0).toNat, by omega⟩
            have hyn : y < n := by omega
            have hyx : y < xs.length := by have := HX.out; omega
            obtain ⟨b2, o2, hab, -, hct⟩ := (hA.below HB.out).look (k := y) (by rw [nums_len]; exact hyx)
            obtain ⟨rfl, rfl⟩ : b1 = b2 ∧ o1 = o2 := by simpa using hab
            simp only [nums, List.getElem_map] at hct
            rw [← tm_at hyx] at hct
            rw [← hy] at hcp
            clear hab hy0 hyx
            by_cases hx : tm xs j < tm xs y
            · rw [spotO_down hpl (by rw [← hy]; exact hx)] at hsp
              clear hy
              have HSP := Lib.hid hsp
              clear hsp
              go_wp2
              go_round
              case rel => exact ⟨p, by omega, by go_num, HSP.out⟩
              case measure => first | (simp [intOf]; done) | (simp [intOf]; omega)
            · rw [spotO_here hpl (by rw [← hy]; exact hx)] at hsp
              clear hy
              by_cases hdp : d = p + 1
              · obtain rfl : j = p + 1 := by omega
                subst hdp
                have HSP := Lib.hid hsp
                have hpd : (p + 1) ≤ (p + 1) := by omega
                have hp0 : (0 : Int) ≤ (((p + 1) : Nat) : Int) := by omega
                have hpdi : (((p + 1) : Nat) : Int) ≤ (((p + 1) : Nat) : Int) := by omega
                have hpji : (((p + 1) : Nat) : Int) ≤ (((p + 1) : Nat) : Int) := by omega
                have HTK : Hid (((ordTo xs (p + 1)).take (p + 1)).length = (p + 1)) := by show _ = _; have := HLN.out; simp only [List.length_take]; omega
                have HDR : Hid (((ordTo xs (p + 1)).drop (p + 1)).length = 0) := by show _ = _; have := HLN.out; simp only [List.length_drop]; omega
                have HDL : Hid ((nums ((ordTo xs (p + 1)).drop (p + 1))).length = 0 * 1) := by show _ = _; rw [nums_len, HDR.out, Nat.mul_one]
                have HDO := Lib.hid (ints_one ((ordTo xs (p + 1)).drop (p + 1)))
                have hAl : Holds wo (some ⟨g, 0, none⟩) (nums ((ordTo xs (p + 1)).take (p + 1))) := by
                  refine .inr ⟨g, 0, rfl, hgl, fun i u hu => ?_⟩
                  rw [Nat.zero_add]
                  refine HCE.out i u ?_
                  have hi : i < (p + 1) := by have := (List.getElem?_eq_some_iff.1 hu).1; rw [nums_len, HTK.out] at this; exact this
                  first | (exfalso; omega) | (rw [← hu]; simp only [nums, List.map_take, List.getElem?_take, if_pos hi])
                clear hsp
                go_wp2_with fail
                refine (l1Own_any (some ⟨g, 0, none⟩) _ _ ((ordTo xs (p + 1)).take (p + 1)) _ hAl HTK.out (by omega) (fun h => by cases h)).mono ?_
                rintro e w1 ⟨E1, c1, rfl, hown1, hb1⟩
                rw [HTK.out] at hown1 ⊢
                have HO1 := Lib.hid (hown1.alloc (.cells #[.int .i64 ((p + 1 : Nat) : Int)] 3))
                have HNEW := Lib.hid (cells_fresh w1 3 #[.int .i64 ((p + 1 : Nat) : Int)])
                have HONE : Hid (∀ u ∈ [Value.int .i64 ((p + 1 : Nat) : Int)], u.oneCell' = true) := fun u hu => by simp at hu; subst hu; rfl
                have HBB := Lib.hid ((below_then HB.out hb1 HB.out.size).alloc (Nat.le_trans HB.out.size hb1.size) (.cells #[.int .i64 ((p + 1 : Nat) : Int)] 3))
                have HC1 : Hid (∀ i u, (nums (ordTo xs (p + 1)))[i]? = some u → (w1.alloc (.cells #[.int .i64 ((p + 1 : Nat) : Int)] 3)).cell? ⟨g, i, none⟩ = some u) := fun i u hu => ((World.cell?_alloc_lt w1 _ ⟨g, i, none⟩ (Nat.lt_of_lt_of_le hgl hb1.size)).trans (hb1.cell (p := ⟨g, i, none⟩) hgl)).trans (HCE.out i u hu)
                have hs1 := hb1.size
                clear hown1 hb1
                go_wp2_with (first | (at_builtin; refine wpList_append_own _ rfl (.tmp 36) (.tmp 38) 22 rfl wo.heap.size 3 i0 (.int .i64 0) 1 8 Try.underlying22 HI.out HZ0.out HZ1.out HZ2.out rfl (by decide) _ (p + 1) (nums ((ordTo xs (p + 1)).take (p + 1))) rfl HO1.out ⟨w1.heap.size, 0, none⟩ 1 1 [.int .i64 ((p + 1 : Nat) : Int)] rfl rfl HNEW.out HONE.out (by unfold maxLen; omega) (by omega) (by simp; omega) ?_; intro v2 w2 hown2 hg2 _; obtain ⟨g2, c2, hv2⟩ := own_slice hown2; subst hv2; have HN2 : Hid (∀ i u, (nums ((ordTo xs (p + 1)).drop (p + 1)))[i]? = some u → w2.cell? ((⟨g, 0, none⟩ : Addr).add i) = some u) := (fun i u hu => by rw [show (⟨g, 0, none⟩ : Addr).add i = ⟨g, 0 + i, none⟩ from by unfold Addr.add; split <;> simp_all]; exfalso; have h1 := (List.getElem?_eq_some_iff.1 hu).1; rw [nums_len, HDR.out] at h1; omega)) | (at_builtin; refine wpList_append_own _ rfl (.tmp 40) (.tmp 43) 22 rfl wo.heap.size 3 i0 (.int .i64 0) 1 8 Try.underlying22 HI.out HZ0.out HZ1.out HZ2.out rfl (by decide) (.slice (some ⟨g2, 0, none⟩) ((p + 1) + 1) c2) _ _ rfl hown2 ⟨g, 0, none⟩ 0 0 (nums ((ordTo xs (p + 1)).drop (p + 1))) rfl HDL.out HN2.out HDO.out (by unfold maxLen; omega) (by omega) (by have := hg2.size; simp at this; omega) ?_; intro v3 w3 hown3 hg3 _))
                rw [show (p + 1) + 1 + 0 = (p + 1) + 1 by omega] at hown3
                obtain ⟨A3, c3, rfl⟩ := own_shape hown3
                have HO3 := Lib.hid (own_lower hown3 hbs)
                have HE := Lib.hid ((HBB.out.grown hg2 (by simp; omega) (fun k hk => Nat.le_trans hbs (HO1.out.lt k hk).1)).grown hg3 (by have := hg2.size; simp at this; omega) (fun k hk => Nat.le_trans hbs (hown2.lt k hk).1))
                have HL3 : Hid ((nums ((ordTo xs (p + 1)).take (p + 1)) ++ [.int .i64 ((p + 1 : Nat) : Int)]) ++ nums ((ordTo xs (p + 1)).drop (p + 1)) = nums (ordTo xs ((p + 1) + 1))) := by
                  show _ = _
                  rw [HNX.out, insO, HLN.out, HSP.out]
                  simp [nums]
                clear hown2 hown3 hg2 hg3
                go_roundw
                case rel => exact ⟨(p + 1) + 1, A3, c3, by omega, by go_num, rfl, by rw [← HL3.out]; exact HO3.out, HE.out, fun h => by omega⟩
                case measure => first | (simp [intOf]; done) | (simp [intOf]; omega)
              · have HSP := Lib.hid hsp
                have hpd : (p + 1) ≤ d := by omega
                have hp0 : (0 : Int) ≤ (((p + 1) : Nat) : Int) := by omega
                have hpdi : (((p + 1) : Nat) : Int) ≤ ((d : Nat) : Int) := by omega
                have hpji : (((p + 1) : Nat) : Int) ≤ ((j : Nat) : Int) := by omega
                have HTK : Hid (((ordTo xs j).take (p + 1)).length = (p + 1)) := by show _ = _; have := HLN.out; simp only [List.length_take]; omega
                have HDR : Hid (((ordTo xs j).drop (p + 1)).length = (j - (p + 1))) := by show _ = _; have := HLN.out; simp only [List.length_drop]; omega
                have HDL : Hid ((nums ((ordTo xs j).drop (p + 1))).length = (j - (p + 1)) * 1) := by show _ = _; rw [nums_len, HDR.out, Nat.mul_one]
                have HDO := Lib.hid (ints_one ((ordTo xs j).drop (p + 1)))
                have hAl : Holds wo (some ⟨g, 0, none⟩) (nums ((ordTo xs j).take (p + 1))) := by
                  refine .inr ⟨g, 0, rfl, hgl, fun i u hu => ?_⟩
                  rw [Nat.zero_add]
                  refine HCE.out i u ?_
                  have hi : i < (p + 1) := by have := (List.getElem?_eq_some_iff.1 hu).1; rw [nums_len, HTK.out] at this; exact this
                  first | (exfalso; omega) | (rw [← hu]; simp only [nums, List.map_take, List.getElem?_take, if_pos hi])
                clear hsp
                go_wp2_with fail
                refine (l1Own_any (some ⟨g, 0, none⟩) _ _ ((ordTo xs j).take (p + 1)) _ hAl HTK.out (by omega) (fun h => by cases h)).mono ?_
                rintro e w1 ⟨E1, c1, rfl, hown1, hb1⟩
                rw [HTK.out] at hown1 ⊢
                have HO1 := Lib.hid (hown1.alloc (.cells #[.int .i64 j] 3))
                have HNEW := Lib.hid (cells_fresh w1 3 #[.int .i64 j])
                have HONE : Hid (∀ u ∈ [Value.int .i64 j], u.oneCell' = true) := fun u hu => by simp at hu; subst hu; rfl
                have HBB := Lib.hid ((below_then HB.out hb1 HB.out.size).alloc (Nat.le_trans HB.out.size hb1.size) (.cells #[.int .i64 j] 3))
                have HC1 : Hid (∀ i u, (nums (ordTo xs j))[i]? = some u → (w1.alloc (.cells #[.int .i64 j] 3)).cell? ⟨g, i, none⟩ = some u) := fun i u hu => ((World.cell?_alloc_lt w1 _ ⟨g, i, none⟩ (Nat.lt_of_lt_of_le hgl hb1.size)).trans (hb1.cell (p := ⟨g, i, none⟩) hgl)).trans (HCE.out i u hu)
                have hs1 := hb1.size
                clear hown1 hb1
                go_wp2_with (first | (at_builtin; refine wpList_append_own _ rfl (.tmp 36) (.tmp 38) 22 rfl wo.heap.size 3 i0 (.int .i64 0) 1 8 Try.underlying22 HI.out HZ0.out HZ1.out HZ2.out rfl (by decide) _ (p + 1) (nums ((ordTo xs j).take (p + 1))) rfl HO1.out ⟨w1.heap.size, 0, none⟩ 1 1 [.int .i64 j] rfl rfl HNEW.out HONE.out (by unfold maxLen; omega) (by omega) (by simp; omega) ?_; intro v2 w2 hown2 hg2 _; obtain ⟨g2, c2, hv2⟩ := own_slice hown2; subst hv2; have HN2 : Hid (∀ i u, (nums ((ordTo xs j).drop (p + 1)))[i]? = some u → w2.cell? ((⟨g, (p + 1), none⟩ : Addr).add i) = some u) := (fun i u hu => by rw [show (⟨g, (p + 1), none⟩ : Addr).add i = ⟨g, (p + 1) + i, none⟩ from by unfold Addr.add; split <;> simp_all]; exact (cell_grown hg2 (by simp; omega) (fun hh => by have := (HO1.out.lt g hh).1; omega)).trans (HC1.out _ u (by rw [← hu]; simp [nums])))) | (at_builtin; refine wpList_append_own _ rfl (.tmp 40) (.tmp 43) 22 rfl wo.heap.size 3 i0 (.int .i64 0) 1 8 Try.underlying22 HI.out HZ0.out HZ1.out HZ2.out rfl (by decide) (.slice (some ⟨g2, 0, none⟩) ((p + 1) + 1) c2) _ _ rfl hown2 ⟨g, (p + 1), none⟩ (j - (p + 1)) (d - (p + 1)) (nums ((ordTo xs j).drop (p + 1))) rfl HDL.out HN2.out HDO.out (by unfold maxLen; omega) (by omega) (by have := hg2.size; simp at this; omega) ?_; intro v3 w3 hown3 hg3 _))
                rw [show (p + 1) + 1 + (j - (p + 1)) = j + 1 by omega] at hown3
                obtain ⟨A3, c3, rfl⟩ := own_shape hown3
                have HO3 := Lib.hid (own_lower hown3 hbs)
                have HE := Lib.hid ((HBB.out.grown hg2 (by simp; omega) (fun k hk => Nat.le_trans hbs (HO1.out.lt k hk).1)).grown hg3 (by have := hg2.size; simp at this; omega) (fun k hk => Nat.le_trans hbs (hown2.lt k hk).1))
                have HL3 : Hid ((nums ((ordTo xs j).take (p + 1)) ++ [.int .i64 j]) ++ nums ((ordTo xs j).drop (p + 1)) = nums (ordTo xs (j + 1))) := by
                  show _ = _
                  rw [HNX.out, insO, HLN.out, HSP.out]
                  simp [nums]
                clear hown2 hown3 hg2 hg3
                go_roundw
                case rel => exact ⟨j + 1, A3, c3, by omega, by go_num, rfl, by rw [← HL3.out]; exact HO3.out, HE.out, fun h => by omega⟩
                case measure => first | (simp [intOf]; done) | (simp [intOf]; omega)
    · have hjn : j = n := by omega
      subst hjn
      go_wp2
      go_ret
      have hl := ordTo_len xs j
      exact ⟨E, d, by rw [hl]; rfl, by rw [hl]; exact hown, hb⟩
end Go.Proofs.Ytkocompjjogciaa
