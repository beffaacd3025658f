/-
  What is proved: contracts of the laws' marks: a row of the call's own is overwritten by a count, and found so again. Conditions: the row is a new one, open to writes; counts are small.
  What is proved: contracts of the first state, as the model and the program make it. Conditions: the party's times are read as they lie.
  What is proved: contracts of the program's state of a place and of its FirstState. Conditions: the party's times are read as they lie; at most eight people.
  What is proved: contracts of the last state, as the model and the program make it. Conditions: the party's times are read as they lie.
  What is proved: a crowd without the people of another one, as the program makes it. Conditions: none.
  What is proved: contracts of the program's closure that tells calm places, and of calmPlaces, which makes it. Conditions: at most four couples.
  What is proved: the cells of a small block that is known whole. Conditions: none.
  What is proved: contracts of the laws' own helpers for lists of lists of numbers: their size, their copy, their comparison. Conditions: the given lists are read as they lie; a copy is of at most 1,048,576 numbers.
  What is proved: contracts of the model's and the library's search for a number in a list. Conditions: the list is read as it lies.
  What is proved: contracts of the model's and the program's tests of isles, of the law's copy of some, and the law on IsIsles. Conditions: none.
  What is proved: contracts of a party slowed down, as the model and the program make it. Conditions: the party's times are read as they lie.
  What is proved: contracts of the first and the last places of isles, as the model and the program make them. Conditions: none but those that each names.
  What is proved: contracts of the model's and the program's tests of places of isles. Conditions: the lists are read as they lie.
-/
import Derived.WalkSpells
import Derived.Deep.RegionHeld3
import Derived.Laws.EntriesVeiled
import Derived.Laws.CopyOwn
import Derived.Test.YtjkiclhihhhpmaaJ1AreCalm
namespace Go.Proofs.Ytjkiclhihhhpmaa
open Go.RowKit

/-- A row of the call's own: it begins at the head of a block from lo on and before hi, and its first cells are xs. -/
def Fresh (w : World) (lo hi : Nat) (ty : TypeId) (A : Option Addr) (xs : List Value) : Prop :=
  xs = [] ∨ ∃ (g : Nat) (cs : Array Value), A = some ⟨g, 0, none⟩ ∧ lo ≤ g ∧ g < hi ∧ Whole w g ty cs ∧ xs.length ≤ cs.size ∧ cs.toList.take xs.length = xs
/-- Of what was there, only blocks from lo on and before hi may have turned. -/
structure Span (lo hi : Nat) (w w' : World) : Prop where
  os : w'.os = w.os
  tape : w'.tape = w.tape
  output : w'.output = w.output
  size : w.heap.size ≤ w'.heap.size
  block : ∀ k, k < w.heap.size → (k < lo ∨ hi ≤ k) → w'.heap[k]? = w.heap[k]?

section
variable {w w' : World} {lo hi lo' hi' B : Nat} {ty : TypeId} {A : Option Addr} {xs : List Value}
theorem Span.refl (lo hi : Nat) (w : World) : Span lo hi w w := ⟨rfl, rfl, rfl, Nat.le_refl _, fun _ _ _ => rfl⟩
theorem Span.of_below (h : Below w.heap.size w w') (lo hi : Nat) : Span lo hi w w' := ⟨h.os, h.tape, h.output, h.size, fun k hk _ => h.block k hk⟩
theorem Span.trans {a b c : World} (h : Span lo hi a b) (k : Span lo hi b c) : Span lo hi a c :=
  ⟨k.os.trans h.os, k.tape.trans h.tape, k.output.trans h.output, Nat.le_trans h.size k.size, fun i hi hne => (k.block i (Nat.lt_of_lt_of_le hi h.size) hne).trans (h.block i hi hne)⟩
theorem Span.below {a : World} (h : Span lo hi w w') (hb : Below B a w) (hB : B ≤ lo) (hs : B ≤ w.heap.size) : Below B a w' :=
  hb.trans ⟨h.os, h.tape, h.output, h.size, fun k hk => h.block k (by omega) (.inl (by omega))⟩
theorem Span.whole {g : Nat} {cs : Array Value} (h : Span lo hi w w') (hw : Whole w g ty cs) (hg : g < lo ∨ hi ≤ g) : Whole w' g ty cs := (h.block g hw.lt hg).trans hw
theorem Span.fresh (h : Span lo hi w w') (hf : Fresh w lo' hi' ty A xs) (hd : hi' ≤ lo ∨ hi ≤ lo') : Fresh w' lo' hi' ty A xs := by
  rcases hf with rfl | ⟨g, cs, hA, h1, h2, hw, h3, h4⟩
  · exact .inl rfl
  · exact .inr ⟨g, cs, hA, h1, h2, h.whole hw (by omega), h3, h4⟩
theorem Fresh.below (hf : Fresh w lo hi ty A xs) (h : Below w.heap.size w w') : Fresh w' lo hi ty A xs := by
  rcases hf with rfl | ⟨g, cs, hA, h1, h2, hw, h3, h4⟩
  · exact .inl rfl
  · exact .inr ⟨g, cs, hA, h1, h2, hw.below h, h3, h4⟩
theorem Fresh.alloc (hf : Fresh w lo hi ty A xs) (o : Obj) : Fresh (w.alloc o) lo hi ty A xs := hf.below (below1 w o)
theorem Fresh.drew (hf : Fresh w lo hi ty A xs) : Fresh w.drew lo hi ty A xs := hf
theorem Fresh.more (hf : Fresh w lo hi ty A xs) (h1 : lo' ≤ lo) (h2 : hi ≤ hi') : Fresh w lo' hi' ty A xs := by
  rcases hf with rfl | ⟨g, cs, hA, h3, h4, hw, h5, h6⟩
  · exact .inl rfl
  · exact .inr ⟨g, cs, hA, by omega, by omega, hw, h5, h6⟩
theorem Fresh.holds (hf : Fresh w lo hi ty A xs) : Holds w A xs := by
  rcases hf with rfl | ⟨g, cs, hA, -, -, hw, -, h4⟩
  · exact .inl rfl
  · refine .inr ⟨g, 0, hA, hw.lt, fun j u hu => ?_⟩
    have hj : j < xs.length := (List.getElem?_eq_some_iff.1 hu).1
    rw [Nat.zero_add, hw.cell j, ← hu]
    have := congrArg (fun l : List Value => l[j]?) h4
    simpa [List.getElem?_take, hj] using this
theorem Fresh.of_whole {g : Nat} (hw : Whole w g ty xs.toArray) (h1 : lo ≤ g) (h2 : g < hi) : Fresh w lo hi ty (some ⟨g, 0, none⟩) xs :=
  .inr ⟨g, _, rfl, h1, h2, hw, by simp, by simp⟩
theorem Fresh.of_own {n : Nat} {v : Value} (h : w.ownsRow lo ty 1 v n xs) (hs : w.heap.size ≤ hi) : ∃ (A : Option Addr) (c : Nat), v = .slice A n c ∧ Fresh w lo hi ty A xs := by
  obtain ⟨hl, h⟩ := h
  rcases h with ⟨hv, hn⟩ | ⟨g, cap, cur, hv, hg, hh, h1, h2, h3, h4⟩
  · subst hn
    exact ⟨none, 0, hv, .inl (List.eq_nil_of_length_eq_zero (by simpa using hl))⟩
  · have hw : Whole w g ty cur := hh
    refine ⟨_, cap, hv, .inr ⟨g, cur, rfl, hg, Nat.lt_of_lt_of_le hw.lt hs, hw, by omega, ?_⟩⟩
    rw [hl]
    exact h4
end

def marksI (k : Int) (n : Nat) : List Int := (List.range n).map fun (i : Nat) => k + (i : Int)
def marksB (k : Int) (n : Nat) : List Bool := (List.range n).map fun (i : Nat) => (k + (i : Int)) % 3 == 0
theorem marksI_len (k : Int) (n : Nat) : (marksI k n).length = n := by simp [marksI]
theorem marksB_len (k : Int) (n : Nat) : (marksB k n).length = n := by simp [marksB]

/-- The first k cells overwritten by the count from q on. -/
def marked (f : Nat → Value) (cs : Array Value) (k : Nat) : Array Value := ((List.range k).map f ++ cs.toList.drop k).toArray
theorem marked_zero (f : Nat → Value) (cs : Array Value) : marked f cs 0 = cs := by simp [marked]
theorem marked_at (f : Nat → Value) (cs : Array Value) {k : Nat} (h : k < cs.size) : ∃ u, (marked f cs k)[k]? = some u := by
  refine ⟨cs[k], ?_⟩
  simp only [marked, List.getElem?_toArray]
  rw [List.getElem?_append_right (by simp)]
  simp [h]
theorem marked_next (f : Nat → Value) (cs : Array Value) {k : Nat} (h : k < cs.size) : (marked f cs k).setIfInBounds k (f k) = marked f cs (k + 1) := by
  apply Array.ext_getElem?
  intro j
  rw [Array.getElem?_setIfInBounds]
  simp only [marked, List.getElem?_toArray, List.size_toArray, List.length_append, List.length_map, List.length_range, List.length_drop, Array.length_toList]
  by_cases hj : k = j
  · subst hj
    rw [if_pos rfl, if_pos (by omega), List.getElem?_append_left (by simp)]
    simp
  · rw [if_neg hj]
    by_cases hlt : j < k
    · rw [List.getElem?_append_left (by simpa using hlt), List.getElem?_append_left (by simp; omega)]
      simp [hlt, Nat.lt_succ_of_lt hlt]
    · rw [List.getElem?_append_right (by simp; omega), List.getElem?_append_right (by simp; omega)]
      simp only [List.length_map, List.length_range, List.getElem?_drop]
      congr 1
      omega
theorem marked_take (f : Nat → Value) (cs : Array Value) (n : Nat) : (marked f cs n).toList.take n = (List.range n).map f := by
  simp [marked]

set_option maxHeartbeats 800000 in
theorem markBoolS_any (A : Option Addr) (n c lo hi : Nat) (xs : List Value) (q : Int) (w : World) (hf : Fresh w lo hi 4 A xs) (hx : xs.length = n) (h0 : 0 ≤ q) (h1 : q ≤ 4611686018427387904) (hn : n ≤ 1048576) :
    Calls Try.prog 70 #[.slice A n c, .int .i64 q] w fun e w' => e = .returned (.int .i64 (q + n)) ∧ Span lo hi w w' ∧ Fresh w' lo hi 4 A (bits (marksB q n)) := by
  subst hx
  rcases hf with rfl | ⟨g, cs, rfl, hlo, hhi, hw, hle, htk⟩
  · go_enter Try.func70, Try.ntmps70
    go_wp2
    refine wp_loop_rounds 1 ?_
    rw [rounds_succ]
    go_wp2
    go_ret
    exact ⟨ret_of (by simp), Span.refl _ _ _, .inl (by simp [marksB, bits])⟩
  · have HT := Lib.hid htk
    clear htk
    have hm0 : Whole w g 4 (marked (fun i : Nat => .bool ((q + (i : Int)) % 3 == 0)) cs 0) := by rw [marked_zero]; exact hw
    have hgl := hw.lt
    go_enter Try.func70, Try.ntmps70
    go_wp2
    go_loopw [1, 5] (fun v i wr => ∃ k : Nat, k ≤ xs.length ∧ i = .int .i64 k ∧ v = .int .i64 (q + k) ∧ Whole wr g 4 (marked (fun i : Nat => .bool ((q + (i : Int)) % 3 == 0)) cs k) ∧ Span lo hi w wr) (fun _ i _ => xs.length - (intOf i).toNat)
    case atStart => exact ⟨0, Nat.zero_le _, rfl, by simp, hm0, Span.refl _ _ _⟩
    case round =>
      obtain ⟨k, hk, rfl, rfl, hm, hs⟩ := hrel
      clear hm0 hw
      by_cases hlt : k < xs.length
      · obtain ⟨u, hu⟩ := marked_at (fun i : Nat => .bool ((q + (i : Int)) % 3 == 0)) cs (show k < cs.size by omega)
        have hcell := (hm.cell k).trans hu
        have hfr := hm.open_ k
        have hset := hm.set_ k (.bool ((q + k) % 3 == 0))
        rw [marked_next (fun i : Nat => .bool ((q + (i : Int)) % 3 == 0)) cs (show k < cs.size by omega)] at hset
        have hs' : Span lo hi w (wr.setCell ⟨g, k, none⟩ (.bool ((q + k) % 3 == 0))) :=
          hs.trans ⟨rfl, rfl, rfl, by simp [World.setCell], fun j _ hj => Below.heap_setCell _ _ _ _ (by show j ≠ g; omega)⟩
        clear hm hu hs
        have hq0 : (0 : Int) ≤ q + k := by omega
        go_wp2
        go_roundw
        case rel => exact ⟨k + 1, by omega, by go_num, by first | exact congrArg _ (by omega) | (simp; omega), hset, hs'⟩
        case measure => simp [intOf]; omega
      · have hkn : k = xs.length := by omega
        subst hkn
        go_wp2
        go_ret
        refine ⟨rfl, hs, .inr ⟨g, _, rfl, hlo, hhi, hm, ?_, ?_⟩⟩
        · simp [bits_len, marksB_len, marked]
        · rw [bits_len, marksB_len, marked_take _ _ _]
          simp [bits, marksB]
set_option maxHeartbeats 800000 in
theorem markIntS_any (A : Option Addr) (n c lo hi : Nat) (xs : List Value) (q : Int) (w : World) (hf : Fresh w lo hi 3 A xs) (hx : xs.length = n) (h0 : 0 ≤ q) (h1 : q ≤ 4611686018427387904) (hn : n ≤ 1048576) :
    Calls Try.prog 19 #[.slice A n c, .int .i64 q] w fun e w' => e = .returned (.int .i64 (q + n)) ∧ Span lo hi w w' ∧ Fresh w' lo hi 3 A (nums (marksI q n)) := by
  subst hx
  rcases hf with rfl | ⟨g, cs, rfl, hlo, hhi, hw, hle, htk⟩
  · go_enter Try.func19, Try.ntmps19
    go_wp2
    refine wp_loop_rounds 1 ?_
    rw [rounds_succ]
    go_wp2
    go_ret
    exact ⟨ret_of (by simp), Span.refl _ _ _, .inl (by simp [marksI, nums])⟩
  · have HT := Lib.hid htk
    clear htk
    have hm0 : Whole w g 3 (marked (fun i : Nat => .int .i64 (q + (i : Int))) cs 0) := by rw [marked_zero]; exact hw
    have hgl := hw.lt
    go_enter Try.func19, Try.ntmps19
    go_wp2
    go_loopw [1, 5] (fun v i wr => ∃ k : Nat, k ≤ xs.length ∧ i = .int .i64 k ∧ v = .int .i64 (q + k) ∧ Whole wr g 3 (marked (fun i : Nat => .int .i64 (q + (i : Int))) cs k) ∧ Span lo hi w wr) (fun _ i _ => xs.length - (intOf i).toNat)
    case atStart => exact ⟨0, Nat.zero_le _, rfl, by simp, hm0, Span.refl _ _ _⟩
    case round =>
      obtain ⟨k, hk, rfl, rfl, hm, hs⟩ := hrel
      clear hm0 hw
      by_cases hlt : k < xs.length
      · obtain ⟨u, hu⟩ := marked_at (fun i : Nat => .int .i64 (q + (i : Int))) cs (show k < cs.size by omega)
        have hcell := (hm.cell k).trans hu
        have hfr := hm.open_ k
        have hset := hm.set_ k (.int .i64 (q + k))
        rw [marked_next (fun i : Nat => .int .i64 (q + (i : Int))) cs (show k < cs.size by omega)] at hset
        have hs' : Span lo hi w (wr.setCell ⟨g, k, none⟩ (.int .i64 (q + k))) :=
          hs.trans ⟨rfl, rfl, rfl, by simp [World.setCell], fun j _ hj => Below.heap_setCell _ _ _ _ (by show j ≠ g; omega)⟩
        clear hm hu hs
        have hq0 : (0 : Int) ≤ q + k := by omega
        go_wp2
        go_roundw
        case rel => exact ⟨k + 1, by omega, by go_num, by first | exact congrArg _ (by omega) | (simp; omega), hset, hs'⟩
        case measure => simp [intOf]; omega
      · have hkn : k = xs.length := by omega
        subst hkn
        go_wp2
        go_ret
        refine ⟨rfl, hs, .inr ⟨g, _, rfl, hlo, hhi, hm, ?_, ?_⟩⟩
        · simp [nums_len, marksI_len, marked]
        · rw [nums_len, marksI_len, marked_take _ _ _]
          simp [nums, marksI]

set_option maxHeartbeats 800000 in
theorem heldBoolS_any (A : Option Addr) (n c : Nat) (q : Int) (w : World) (hA : Holds w A (bits (marksB q n))) (h0 : 0 ≤ q) (h1 : q ≤ 4611686018427387904) (hn : n ≤ 1048576) :
    Calls Try.prog 76 #[.slice A n c, .int .i64 q] w fun e w' => e = .returned (.int .i64 (q + n)) ∧ w = w' := by
  have hl := marksB_len q n
  have HL := Lib.hid hl
  clear hl
  go_enter Try.func76, Try.ntmps76
  go_wp2
  go_loop [1, 5] (fun v i => ∃ k : Nat, k ≤ n ∧ i = .int .i64 k ∧ v = .int .i64 (q + k)) (fun _ i => n - (intOf i).toNat)
  case atStart => exact ⟨0, Nat.zero_le _, rfl, by simp⟩
  case round =>
    obtain ⟨k, hk, rfl, rfl⟩ := hrel
    by_cases hlt : k < n
    · obtain ⟨b, o, rfl, hb, hc⟩ := hA.look (k := k) (by rw [bits_len, HL.out]; exact hlt)
      have hv : (bits (marksB q n))[k]'(by rw [bits_len, HL.out]; exact hlt) = .bool ((q + (k : Int)) % 3 == 0) := by simp [bits, marksB]
      rw [hv] at hc
      clear hv
      have hq0 : (0 : Int) ≤ q + k := by omega
      go_wp2
      go_round
      case rel => exact ⟨k + 1, by omega, by go_num, by first | exact congrArg _ (by omega) | (simp; omega)⟩
      case measure => simp [intOf]; omega
    · have hkn : k = n := by omega
      subst hkn
      go_wp2
      go_ret
      exact ⟨rfl, rfl⟩

set_option maxHeartbeats 800000 in
theorem heldIntS_any (A : Option Addr) (n c : Nat) (q : Int) (w : World) (hA : Holds w A (nums (marksI q n))) (h0 : 0 ≤ q) (h1 : q ≤ 4611686018427387904) (hn : n ≤ 1048576) :
    Calls Try.prog 20 #[.slice A n c, .int .i64 q] w fun e w' => e = .returned (.int .i64 (q + n)) ∧ w = w' := by
  have hl := marksI_len q n
  have HL := Lib.hid hl
  clear hl
  go_enter Try.func20, Try.ntmps20
  go_wp2
  go_loop [1, 5] (fun v i => ∃ k : Nat, k ≤ n ∧ i = .int .i64 k ∧ v = .int .i64 (q + k)) (fun _ i => n - (intOf i).toNat)
  case atStart => exact ⟨0, Nat.zero_le _, rfl, by simp⟩
  case round =>
    obtain ⟨k, hk, rfl, rfl⟩ := hrel
    by_cases hlt : k < n
    · obtain ⟨b, o, rfl, hb, hc⟩ := hA.look (k := k) (by rw [nums_len, HL.out]; exact hlt)
      have hv : (nums (marksI q n))[k]'(by rw [nums_len, HL.out]; exact hlt) = .int .i64 (q + (k : Int)) := by simp [nums, marksI]
      rw [hv] at hc
      clear hv
      have hq0 : (0 : Int) ≤ q + k := by omega
      go_wp2
      go_round
      case rel => exact ⟨k + 1, by omega, by go_num, by first | exact congrArg _ (by omega) | (simp; omega)⟩
      case measure => simp [intOf]; omega
    · have hkn : k = n := by omega
      subst hkn
      go_wp2
      go_ret
      exact ⟨rfl, rfl⟩

set_option maxHeartbeats 400000 in
theorem markState_any (A : Option Addr) (n c lo hi : Nat) (xs : List Value) (t : Bool) (q : Int) (w : World) (hf : Fresh w lo hi 4 A xs) (hx : xs.length = n) (h0 : 0 ≤ q) (h1 : q ≤ 4611686018427387904) (hn : n ≤ 1048576) :
    Calls Try.prog 28 #[.agg #[.slice A n c, .bool t], .int .i64 q] w fun e w' => e = .returned (.int .i64 (q + n)) ∧ Span lo hi w w' ∧ Fresh w' lo hi 4 A (bits (marksB q n)) := by
  have HX := Lib.hid hx
  clear hx
  go_enter Try.func28, Try.ntmps28
  go_wp2_with fail
  refine (markBoolS_any A n c lo hi xs q _ (hf.alloc _) HX.out h0 h1 hn).mono ?_
  rintro e w1 ⟨rfl, hs, hf1⟩
  go_wp2
  go_ret
  exact ⟨rfl, (Span.of_below (below1 w _) lo hi).trans hs, hf1⟩

set_option maxHeartbeats 400000 in
theorem heldState_any (A : Option Addr) (n c : Nat) (t : Bool) (q : Int) (w : World) (hA : Holds w A (bits (marksB q n))) (h0 : 0 ≤ q) (h1 : q ≤ 4611686018427387904) (hn : n ≤ 1048576) :
    Calls Try.prog 34 #[.agg #[.slice A n c, .bool t], .int .i64 q] w fun e w' => e = .returned (.int .i64 (q + n)) ∧ Below w.heap.size w w' := by
  have hq0 : (0 : Int) ≤ q + n := by omega
  go_enter Try.func34, Try.ntmps34
  go_wp2_with fail
  refine (heldBoolS_any A n c q _ (hA.alloc _) h0 h1 hn).mono ?_
  rintro e w1 ⟨rfl, rfl⟩
  go_wp2
  go_ret
  exact ⟨rfl, below1 w _⟩

end Go.Proofs.Ytjkiclhihhhpmaa

namespace Go.Proofs.Ytjkiclhihhhpmaa
open Go.RowKit

/-- What a call hands back that makes a list of truth values. -/
def BitsPost (bs : List Bool) (w : World) (e : Ending) (w' : World) : Prop :=
  ∃ (A : Option Addr) (c : Nat), e = .returned (.slice A bs.length c) ∧ Fresh w' w.heap.size w'.heap.size 4 A (bits bs) ∧ Below w.heap.size w w'
/-- What a call hands back that makes a state and tells whether it did. -/
def StatePost (bs : List Bool) (t ok : Bool) (w : World) (e : Ending) (w' : World) : Prop :=
  ∃ (A : Option Addr) (c : Nat), e = .returned (.tuple #[.agg #[.slice A bs.length c, .bool t], .bool ok]) ∧ Fresh w' w.heap.size w'.heap.size 4 A (bits bs) ∧ Below w.heap.size w w'

theorem bits_one (bs : List Bool) : ∀ u ∈ bits bs, u.oneCell' = true := by
  intro v hv
  simp only [bits, List.mem_map] at hv
  obtain ⟨x, -, rfl⟩ := hv
  rfl

set_option maxHeartbeats 800000 in
set_option maxRecDepth 100000 in
theorem cloneB_any (b o n d : Nat) (bs : List Bool) (w : World) (hB : ∀ j u, (bits bs)[j]? = some u → w.cell? ⟨b, o + j, none⟩ = some u) (hy : bs.length = n) (hn : n ≤ 1048576) :
    Calls Try.prog 115 #[.slice (some ⟨b, o, none⟩) n d] w (BitsPost bs w) := by
  subst hy
  obtain ⟨i0, hi, hz0, hz1, hz2⟩ := info_parts info_bool
  have HI := Lib.hid hi
  have HZ0 := Lib.hid hz0
  have HZ1 := Lib.hid hz1
  have HZ2 := Lib.hid hz2
  have HB := Lib.hid hB
  clear hi hz0 hz1 hz2 hB
  go_enter Try.func115, Try.ntmps115
  have hnil := fun (W : World) => Lib.run_eql_slice_nil (P := Try.prog) W 32 4 (some ⟨b, o, none⟩) bs.length d 0 0 Try.underlying32
  have HOWN := Lib.hid (World.ownsRow_made (base := w.heap.size) (e := 4) (size := 1) w #[] 0 (Nat.le_refl _) (by unfold maxLen; omega) rfl)
  have hnews : ∀ j u, (bits bs)[j]? = some u → (w.alloc (.cells #[] 4)).cell? ((⟨b, o, none⟩ : Addr).add j) = some u := fun j u hu => by
    rw [show (⟨b, o, none⟩ : Addr).add j = ⟨b, o + j, none⟩ from by unfold Addr.add; split <;> simp_all]
    have h := HB.out j u hu
    rw [World.cell?_alloc_lt _ _ _ (block_lt_of_cell h)]
    exact h
  have HNEWS := Lib.hid hnews
  have HLEN := Lib.hid (show (bits bs).length = bs.length * 1 by rw [bits_len, Nat.mul_one])
  have HONE := Lib.hid (bits_one bs)
  have HMAX := Lib.hid (show 0 + bs.length ≤ maxLen by unfold maxLen; omega)
  have HBYT := Lib.hid (show (0 + bs.length) * 1 ≤ 140737488355328 by omega)
  clear hnews
  go_wp2_with (at_builtin; refine wpList_append_own _ rfl (.tmp 5) (.tmp 6) 32 rfl w.heap.size 4 i0 (.bool false) 1 1 Try.underlying32 HI.out HZ0.out HZ1.out HZ2.out rfl (by decide) _ 0 [] rfl HOWN.out ⟨b, o, none⟩ bs.length d (bits bs) rfl HLEN.out HNEWS.out HONE.out HMAX.out HBYT.out (by simp) ?_; intro v' w1 hown1 hg1 _)
  go_ret
  simp only [Nat.zero_add, List.nil_append] at hown1
  obtain ⟨A, c, hv, hf⟩ := Fresh.of_own hown1 (Nat.le_refl _)
  refine ⟨A, c, by rw [← hv]; rfl, hf, ?_⟩
  exact (below1 w _).grown hg1 (by simp) (fun k hk => Nat.le_of_eq (Option.some.inj (show some w.heap.size = some k from hk)))

/-- So many people, none over. -/
def falses (n : Nat) : List Bool := List.replicate n false
theorem falses_len (n : Nat) : (falses n).length = n := by simp [falses]

/-- The places of the first state: none where there is no party. -/
def firstBits (xs : List Int) (n : Nat) (s : Int) : List Bool := if isParty xs s then falses n else []
theorem firstBits_le (xs : List Int) (n : Nat) (s : Int) : (firstBits xs n s).length ≤ n := by
  rw [firstBits]
  split
  · rw [falses_len]; exact Nat.le_refl _
  · simp

end Go.Proofs.Ytjkiclhihhhpmaa

namespace Go.Proofs.Ytjkiclhihhhpmaa
open Go.RowKit

/-- What a call hands back that makes a state. -/
def StateRes (bs : List Bool) (t : Bool) (w : World) (e : Ending) (w' : World) : Prop :=
  ∃ (A : Option Addr) (c : Nat), e = .returned (.agg #[.slice A bs.length c, .bool t]) ∧ Fresh w' w.heap.size w'.heap.size 4 A (bits bs) ∧ Below w.heap.size w w'

theorem Fresh.set_out {w : World} {lo hi b o : Nat} {ty : TypeId} {A : Option Addr} {xs : List Value} {u : Value} (hf : Fresh w lo hi ty A xs) (hb : b < lo ∨ hi ≤ b) : Fresh (w.setCell ⟨b, o, none⟩ u) lo hi ty A xs := by
  rcases hf with rfl | ⟨g, cs, hA, h1, h2, hw, h3, h4⟩
  · exact .inl rfl
  · exact .inr ⟨g, cs, hA, h1, h2, hw.off (by omega), h3, h4⟩

theorem elem_eight (W : World) : (sizeOf (Try.prog.elem 85)).run Try.prog W = .ok 1 W := by kernel_rfl
theorem len_eight : Try.prog.arrayLen 85 = 8 := by kernel_rfl
theorem arr_eight : Try.prog.underlying 85 = some (.array (Try.prog.arrayLen 85) (Try.prog.elem 85)) := by kernel_rfl
theorem slice_eight (W : World) (g n : Nat) (h : n ≤ 8) : (Instr.sliceAt 85 (.pointer (some ⟨g, 0, none⟩)) none (some (.int .i64 (n : Int))) none).run Try.prog W = .ok (.slice (some ⟨g, 0, none⟩) n 8) W := by
  rw [run_sliceAt_array_h W 85 _ arr_eight .i64 (n : Int) (by omega) (by rw [len_eight]; omega), elem_eight]
  simp [slicedAt, len_eight, Result.andThen, Addr.add]

set_option maxHeartbeats 800000 in
set_option maxRecDepth 100000 in
theorem placeState_any (bs : List Bool) (t : Bool) (n : Nat) (w : World) (hy : bs.length = n) (hn : n ≤ 8) :
    Calls Try.prog 75 #[.agg (placeCells bs t), .int .i64 n] w (StateRes bs t w) := by
  subst hy
  have hp := (Whole.fresh w 89 (placeCells bs t)).alloc (.cells #[.slice none 0 0, .bool false] 41)
  have hr := Whole.fresh (w.alloc (.cells (placeCells bs t) 89)) 41 #[.slice none 0 0, .bool false]
  rw [World.size_alloc] at hr
  have hb2 := below2 w (.cells (placeCells bs t) 89) (.cells #[.slice none 0 0, .bool false] 41)
  have ht8 := (hp.cell 8).trans (show (placeCells bs t)[8]? = some (.bool t) from rfl)
  have hB : ∀ j u, (bits bs)[j]? = some u → ((w.alloc (.cells (placeCells bs t) 89)).alloc (.cells #[.slice none 0 0, .bool false] 41)).cell? ⟨w.heap.size, 0 + j, none⟩ = some u := fun j u hu => by
    have hj : j < bs.length := by have := (List.getElem?_eq_some_iff.1 hu).1; rwa [bits_len] at this
    rw [Nat.zero_add, hp.cell j, place_at bs t (by omega), ← hu]
    simp [bits, hj]
  have HB := Lib.hid hB
  clear hB
  have hsl := fun W : World => slice_eight W w.heap.size bs.length hn
  go_enter Try.func75, Try.ntmps75
  go_wp2
  go_region_held3 (fun w' => w'.cell? ⟨w.heap.size, 8, none⟩ = some (.bool t)) (go_keep)
    (first | (go_at_call 115; refine (cloneB_any w.heap.size 0 bs.length 8 bs _ (by exact HB.out) rfl (by omega)).mono ?_; rintro e w1 ⟨A, c, rfl, hf, hb⟩; have k8 := ((hp.drew.below hb).cell 8).trans (show (placeCells bs t)[8]? = some (.bool t) from rfl); obtain ⟨r0, r1, f0, f1⟩ := (hr.drew.below hb).two))
  have hlw : w.heap.size + 1 + 1 ≤ w1.heap.size := by have := hb.size; simpa using this
  have HF := Lib.hid ((hf.set_out (b := w.heap.size + 1) (o := 0) (u := .slice A bs.length c) (.inl (by simp))).set_out (b := w.heap.size + 1) (o := 1) (u := .bool t) (.inl (by simp)))
  have HBW := Lib.hid (below_then hb2.drew hb (by simp; omega))
  clear hf hb
  go_wp2
  refine bodyPost_ret (v := .agg #[.slice A bs.length c, .bool t]) (by simp [results, Try.results75, go_sem, r0, r1]) rfl ⟨A, c, rfl, ?_, ?_⟩
  · have h := HF.out.more (lo' := w.heap.size) (hi' := w1.heap.size) (by simp; omega) (Nat.le_refl _)
    simpa [World.setCell] using h
  · exact below_set (below_set HBW.out (by omega)) (by omega)

theorem falses_get (n i : Nat) : (falses n).getD i false = false := by
  simp only [falses, List.getD_eq_getElem?_getD, List.getElem?_replicate]
  split <;> rfl
theorem place_falses (n : Nat) : placeCells (falses n) false = placeCells [] false := by
  simp only [placeCells, falses_get]
  rfl

theorem placeState_none (n : Nat) (w : World) (hn : n ≤ 8) :
    Calls Try.prog 75 #[.agg #[.bool false, .bool false, .bool false, .bool false, .bool false, .bool false, .bool false, .bool false, .bool false], .int .i64 n] w (StateRes (falses n) false w) := by
  have h := placeState_any (falses n) false n w (falses_len n) hn
  rw [place_falses] at h
  exact h

end Go.Proofs.Ytjkiclhihhhpmaa

namespace Go.Proofs.Ytjkiclhihhhpmaa
open Go.RowKit

/-- So many people, all over. -/
def trues (n : Nat) : List Bool := List.replicate n true
theorem trues_len (n : Nat) : (trues n).length = n := by simp [trues]
theorem trues_next (n : Nat) : bits (trues n) ++ [.bool true] = bits (trues (n + 1)) := by
  simp [bits, trues, List.replicate_succ']

/-- The places of the last state: none where there is no party. -/
def lastBits (xs : List Int) (n : Nat) (s : Int) : List Bool := if isParty xs s then trues n else []
theorem lastBits_le (xs : List Int) (n : Nat) (s : Int) : (lastBits xs n s).length ≤ n := by
  rw [lastBits]
  split
  · rw [trues_len]; exact Nat.le_refl _
  · simp

theorem place_over (n : Nat) (h : n < 8) : (placeCells (trues n) true).setIfInBounds n (.bool true) = placeCells (trues (n + 1)) true := by
  match n, h with
  | 0, _ => rfl
  | 1, _ => rfl
  | 2, _ => rfl
  | 3, _ => rfl
  | 4, _ => rfl
  | 5, _ => rfl
  | 6, _ => rfl
  | 7, _ => rfl
theorem size_place : (Try.prog.info? 89).map (·.size) = some 9 := by kernel_rfl
theorem place_one (bs : List Bool) (t : Bool) : (placeCells bs t).all (·.oneCell') = true := by simp [placeCells, Value.oneCell']

set_option maxHeartbeats 1600000 in
theorem everybodyOver_any (n : Nat) (w : World) (hn : n ≤ 8) :
    Calls Try.prog 112 #[.int .i64 n] w fun e w' => e = .returned (.agg (placeCells (trues n) true)) ∧ Below w.heap.size w w' := by
  have h1 := (Whole.fresh w 89 (placeCells [] false)).alloc (.cells (placeCells (trues 0) true) 89)
  have h2 := Whole.fresh (w.alloc (.cells (placeCells [] false) 89)) 89 (placeCells (trues 0) true)
  have hb0 := below2 w (.cells (placeCells [] false) 89) (.cells (placeCells (trues 0) true) 89)
  simp only [World.size_alloc] at h1 h2
  go_enter Try.func112, Try.ntmps112
  go_wp2
  go_loopw [7] (fun i wr => ∃ k : Nat, k ≤ n ∧ i = .int .i64 k ∧ Whole wr w.heap.size 89 (placeCells [] false) ∧ Whole wr (w.heap.size + 1) 89 (placeCells (trues k) true) ∧ Below w.heap.size w wr) (fun i _ => n - (intOf i).toNat)
  case atStart => exact ⟨0, Nat.zero_le _, rfl, h1, h2, hb0⟩
  case round =>
    clear h1 h2 hb0
    obtain ⟨k, hk, rfl, h1, h2, hb⟩ := hrel
    by_cases hlt : k < n
    · have hk8 : k < 8 := by omega
      have hki : (k : Int) < 8 := by omega
      have hcell := (h2.cell k).trans (place_at (trues k) true hk8)
      have hfr := h2.open_ k
      have hset := h2.set_ k (.bool true)
      rw [place_over k hk8] at hset
      go_wp2
      go_roundw
      case rel => exact ⟨k + 1, by omega, by go_num, h1.off (by omega), hset, below_set hb (by omega)⟩
      case measure => simp [intOf]; omega
    · have hkn : k = n := by omega
      subst hkn
      go_wp2_with (first | (refine wpList_load_row rfl 89 (.tmp 3) rfl (w.heap.size + 1) rfl 89 (placeCells (trues k) true) (0, 0) _ h2 Try.underlying89 rfl size_place ?_) | (refine wpList_store_whole rfl 89 (.tmp 2) (.tmp 15) rfl w.heap.size (placeCells (trues k) true) rfl rfl 89 (placeCells [] false) h1 size_place rfl (place_one _ _) ?_; intro w2 hw2 ho2))
      have hb2 := ho2.below hb (by omega)
      obtain ⟨r0, r1, r2, r3, r4, r5, r6, r7, r8⟩ := place_cells hw2
      refine bodyPost_ret (v := .agg (placeCells (trues k) true)) (by simp [results, Try.results112, go_sem, r0, r1, r2, r3, r4, r5, r6, r7, r8, placeCells]) rfl ⟨rfl, hb2⟩

end Go.Proofs.Ytjkiclhihhhpmaa

namespace Go.Proofs.Ytjkiclhihhhpmaa
open Go.RowKit

theorem index8 (f : Nat → Bool) {k : Nat} (h : k < 8) (w : World) : (Instr.index 85 (.agg #[.bool (f 0), .bool (f 1), .bool (f 2), .bool (f 3), .bool (f 4), .bool (f 5), .bool (f 6), .bool (f 7)]) (.int .i64 k)).run Try.prog w = .ok (.bool (f k)) w :=
  match k, h with
  | 0, _ => by kernel_rfl
  | 1, _ => by kernel_rfl
  | 2, _ => by kernel_rfl
  | 3, _ => by kernel_rfl
  | 4, _ => by kernel_rfl
  | 5, _ => by kernel_rfl
  | 6, _ => by kernel_rfl
  | 7, _ => by kernel_rfl
theorem cells8_one (f : Nat → Bool) : (cells8 f).all (·.oneCell') = true := by simp [cells8, Value.oneCell']
theorem size_crowd8 : (Try.prog.info? 87).map (·.size) = some 8 := by kernel_rfl
theorem cells8_cells {w : World} {g : Nat} {ty : TypeId} {f : Nat → Bool} (h : Whole w g ty (cells8 f)) :
    w.cell? ⟨g, 0, none⟩ = some (.bool (f 0)) ∧ w.cell? ⟨g, 1, none⟩ = some (.bool (f 1)) ∧ w.cell? ⟨g, 2, none⟩ = some (.bool (f 2)) ∧ w.cell? ⟨g, 3, none⟩ = some (.bool (f 3)) ∧
    w.cell? ⟨g, 4, none⟩ = some (.bool (f 4)) ∧ w.cell? ⟨g, 5, none⟩ = some (.bool (f 5)) ∧ w.cell? ⟨g, 6, none⟩ = some (.bool (f 6)) ∧ w.cell? ⟨g, 7, none⟩ = some (.bool (f 7)) :=
  ⟨h.cell 0, h.cell 1, h.cell 2, h.cell 3, h.cell 4, h.cell 5, h.cell 6, h.cell 7⟩

/-- The first k people have been looked at. -/
def withTo (f g : Nat → Bool) (k i : Nat) : Bool := if i < k then f i && !g i else f i
theorem with_zero (f g : Nat → Bool) : withTo f g 0 = f := by funext i; simp [withTo]
theorem with_all (f g : Nat → Bool) : cells8 (withTo f g 8) = cells8 (fun i => f i && !g i) := by simp [cells8, withTo]
theorem with_here (f g : Nat → Bool) (k : Nat) : withTo f g k k = f k := by simp [withTo]
theorem with_set (f g : Nat → Bool) {k : Nat} (h : k < 8) : (cells8 (withTo f g k)).setIfInBounds k (.bool (f k && !g k)) = cells8 (withTo f g (k + 1)) := by
  have h1 : withTo f g (k + 1) k = (f k && !g k) := by simp [withTo]
  have hh : ∀ i, i ≠ k → withTo f g (k + 1) i = withTo f g k i := by
    intro i hi
    unfold withTo
    by_cases h1 : i < k
    · rw [if_pos h1, if_pos (by omega)]
    · rw [if_neg h1, if_neg (by omega)]
  rw [← h1]
  unfold cells8
  match k, h with
  | 0, _ => simp [hh]
  | 1, _ => simp [hh]
  | 2, _ => simp [hh]
  | 3, _ => simp [hh]
  | 4, _ => simp [hh]
  | 5, _ => simp [hh]
  | 6, _ => simp [hh]
  | 7, _ => simp [hh]

set_option maxHeartbeats 3200000 in
theorem without_any (f g : Nat → Bool) (w : World) :
    Calls Try.prog 132 #[.agg (cells8 f), .agg (cells8 g)] w fun e w' => e = .returned (.agg (cells8 (fun i => f i && !g i))) ∧ Below w.heap.size w w' := by
  have h0 := ((Whole.fresh w 87 (cells8 f)).alloc (.cells (cells8 g) 87)).alloc (.cells (cells8 (fun _ => false)) 87)
  have h2 := Whole.fresh ((w.alloc (.cells (cells8 f) 87)).alloc (.cells (cells8 g) 87)) 87 (cells8 (fun _ => false))
  simp only [World.size_alloc] at h2
  have hb := below3 w (.cells (cells8 f) 87) (.cells (cells8 g) 87) (.cells (cells8 (fun _ => false)) 87)
  have H0 := Lib.hid h0
  have HZ := Lib.hid (with_zero f g)
  have H2 := Lib.hid h2
  have HB := Lib.hid hb
  have HEND := Lib.hid (with_all f g)
  clear h0 h2 hb
  unfold cells8
  go_enter Try.func132, Try.ntmps132
  go_wp2
  go_loopw [9] (fun i wr => ∃ k : Nat, k ≤ 8 ∧ i = .int .i64 k ∧ Whole wr w.heap.size 87 (cells8 (withTo f g k)) ∧ Whole wr (w.heap.size + 1 + 1) 87 (cells8 (fun _ => false)) ∧ Below w.heap.size w wr) (fun i _ => 8 - (intOf i).toNat)
  case atStart => exact ⟨0, Nat.zero_le _, rfl, by rw [HZ.out]; exact H0.out, H2.out, HB.out⟩
  case round =>
    obtain ⟨k, hk, rfl, g0, g2, hb⟩ := hrel
    clear H0 H2 HB
    have hl0 := g0.lt
    have hl2 := g2.lt
    by_cases hlt : k < 8
    · have hix := index8 g hlt
      have hkk : (k : Int) < 8 := by omega
      have hcell := (g0.cell k).trans (cells8_at (withTo f g k) hlt)
      rw [with_here] at hcell
      have hfr := g0.open_ k
      have hs := g0.set_ k (.bool (f k && !g k))
      rw [with_set f g hlt] at hs
      have HF := Lib.hid (g2.off (b := w.heap.size) (o := k) (u := .bool (f k && !g k)) (by omega))
      cases hp : f k <;> cases hq : g k
      all_goals
        rw [hq] at hix
        rw [hp] at hcell
        rw [hp, hq] at hs HF
        have HS := Lib.hid hs
        clear hs hp hq
        go_wp2
        go_roundw
        case rel => exact ⟨k + 1, by omega, by go_num, HS.out, HF.out, below_set hb (Nat.le_refl _)⟩
        case measure => simp [intOf]; omega
    · have hk8 : k = 8 := by omega
      subst hk8
      rw [HEND.out] at g0
      go_wp2_with (first | (refine wpList_load_row rfl 87 (.tmp 2) rfl w.heap.size rfl 87 (cells8 (fun i => f i && !g i)) (0, 0) _ g0 Try.underlying87 rfl size_crowd8 ?_) | (refine wpList_store_whole rfl 87 (.tmp 4) (.tmp 25) rfl (w.heap.size + 1 + 1) (cells8 (fun i => f i && !g i)) rfl rfl 87 (cells8 (fun _ => false)) g2 size_crowd8 rfl (cells8_one _) ?_; intro w2 hw2 ho2))
      have hb2 := ho2.below hb (by omega)
      obtain ⟨r0, r1, r2, r3, r4, r5, r6, r7⟩ := cells8_cells hw2
      refine bodyPost_ret (v := .agg (cells8 (fun i => f i && !g i))) (by simp [results, Try.results132, go_sem, r0, r1, r2, r3, r4, r5, r6, r7, cells8]) rfl ⟨rfl, hb2⟩
end Go.Proofs.Ytjkiclhihhhpmaa

namespace Go.Proofs.Ytjkiclhihhhpmaa
open Go.RowKit

/-- The cells of a place. -/
def place9 (f : Nat → Bool) (t : Bool) : Array Value := #[.bool (f 0), .bool (f 1), .bool (f 2), .bool (f 3), .bool (f 4), .bool (f 5), .bool (f 6), .bool (f 7), .bool t]
theorem place_nine9 (bs : List Bool) (t : Bool) : placeCells bs t = place9 (fun i => bs.getD i false) t := rfl
/-- The first n. -/
def firstN (n i : Nat) : Bool := decide (i < n)
theorem trues_at (n i : Nat) : (trues n).getD i false = firstN n i := by
  unfold firstN
  by_cases h : i < n
  · simp [trues, List.getD_eq_getElem?_getD, List.getElem?_replicate, h]
  · simp [trues, List.getD_eq_getElem?_getD, List.getElem?_replicate, h]
theorem place_trues (n : Nat) (t : Bool) : placeCells (trues n) t = place9 (firstN n) t := by
  simp only [placeCells, place9, trues_at]
/-- The eight cells of a crowd. -/
def Row8 (g : Nat) (f : Nat → Bool) (w : World) : Prop :=
  w.cell? ⟨g, 0, none⟩ = some (.bool (f 0)) ∧ w.cell? ⟨g, 1, none⟩ = some (.bool (f 1)) ∧ w.cell? ⟨g, 2, none⟩ = some (.bool (f 2)) ∧ w.cell? ⟨g, 3, none⟩ = some (.bool (f 3)) ∧
  w.cell? ⟨g, 4, none⟩ = some (.bool (f 4)) ∧ w.cell? ⟨g, 5, none⟩ = some (.bool (f 5)) ∧ w.cell? ⟨g, 6, none⟩ = some (.bool (f 6)) ∧ w.cell? ⟨g, 7, none⟩ = some (.bool (f 7))
theorem row8_of {w : World} {g : Nat} {ty : TypeId} {f : Nat → Bool} {t : Bool} (h : Whole w g ty (place9 f t)) : Row8 g f w :=
  ⟨h.cell 0, h.cell 1, h.cell 2, h.cell 3, h.cell 4, h.cell 5, h.cell 6, h.cell 7⟩

def groupFnV (g1 : Nat) : Value := .func (.func 134) #[] #[.pointer (some ⟨g1, 0, none⟩)]
def calmFnV (g3 g4 : Nat) : Value := .func (.func 131) #[] #[.pointer (some ⟨g3, 0, none⟩), .pointer (some ⟨g4, 0, none⟩)]
/-- What the closure that tells calm places has captured. -/
structure CalmFn (w : World) (k g1 g3 g4 : Nat) : Prop where
  b1 : Whole w g1 3 #[.int .i64 k]
  b3 : Whole w g3 135 #[groupFnV g1]
  b4 : Whole w g4 89 (place9 (firstN (2 * k)) true)
theorem CalmFn.below {w w' : World} {k g1 g3 g4 : Nat} (h : CalmFn w k g1 g3 g4) (hb : Below w.heap.size w w') : CalmFn w' k g1 g3 g4 := ⟨h.b1.below hb, h.b3.below hb, h.b4.below hb⟩
theorem CalmFn.drew {w : World} {k g1 g3 g4 : Nat} (h : CalmFn w k g1 g3 g4) : CalmFn w.drew k g1 g3 g4 := ⟨h.b1, h.b3, h.b4⟩
theorem CalmFn.alloc {w : World} {k g1 g3 g4 : Nat} (h : CalmFn w k g1 g3 g4) (o : Obj) : CalmFn (w.alloc o) k g1 g3 g4 := ⟨h.b1.alloc o, h.b3.alloc o, h.b4.alloc o⟩
theorem CalmFn.c1 {w : World} {k g1 g3 g4 : Nat} (h : CalmFn w k g1 g3 g4) : w.cell? ⟨g1, 0, none⟩ = some (.int .i64 k) := h.b1.cell 0
theorem CalmFn.l1 {w : World} {k g1 g3 g4 : Nat} (h : CalmFn w k g1 g3 g4) : g1 < w.heap.size := h.b1.lt

/-- What the closure reads while it runs. -/
def CalmS (g g1 g3 g4 : Nat) (f fa : Nat → Bool) (w : World) : Prop :=
  w.cell? ⟨g3, 0, none⟩ = some (.func (.func 134) #[] #[.pointer (some ⟨g1, 0, none⟩)]) ∧ Row8 g f w ∧ Row8 g4 fa w
theorem calmS_of {w : World} {k g g1 g3 g4 : Nat} {f : Nat → Bool} {t : Bool} (h : CalmFn w k g1 g3 g4) (hp : Whole w g 89 (place9 f t)) : CalmS g g1 g3 g4 f (firstN (2 * k)) w :=
  ⟨h.b3.cell 0, row8_of hp, row8_of h.b4⟩
theorem calm_out {k : Nat} {f : Nat → Bool} : calm k (fun i => firstN (2 * k) i && !f i) = calm k (fun i => !f i) := calm_congr fun i hi => by simp [firstN, hi]

set_option maxHeartbeats 6400000 in
set_option maxRecDepth 100000 in
set_option linter.unusedSimpArgs false in
theorem calmPlaceFn_any (k g1 g3 g4 : Nat) (f : Nat → Bool) (t : Bool) (w : World) (hk : k ≤ 4) (h : CalmFn w k g1 g3 g4) :
    Calls Try.prog 131 #[.agg (place9 f t), .pointer (some ⟨g3, 0, none⟩), .pointer (some ⟨g4, 0, none⟩)] w fun e w' => e = .returned (.bool (quiet k f)) ∧ Below w.heap.size w w' := by
  have hp := Whole.fresh w 89 (place9 f t)
  have hc := (h.alloc (.cells (place9 f t) 89)).drew
  cases h1 : calm k f
  · have HP := Lib.hid (quiet_no h1)
    have H1 := Lib.hid h1
    clear h1
    unfold place9 at *
    go_enter Try.func131, Try.ntmps131
    go_wp2_with fail
    refine wp_region_held_drew (S := (CalmS w.heap.size g1 g3 g4 f (firstN (2 * k)))) (by kernel_rfl) (calmS_of hc hp.drew) (fun hHeld => ?_)
    refine wpAnyH_take (i := 0) (v := ?_) rfl (by kernel_rfl) (by kernel_rfl) (by kernel_rfl) (fun _ _ _ h => h) (Or.inl ⟨rfl, ?_⟩) hHeld ?_
    rotate_left
    · intro w' hS; obtain ⟨sF, ⟨a0, a1, a2, a3, a4, a5, a6, a7⟩, ⟨b0, b1, b2, b3, b4, b5, b6, b7⟩⟩ := hS; go_simp <;> with_reducible rfl
    simp only [Act.put, List.getElem_toArray, List.getElem_cons_succ, List.getElem_cons_zero, List.setIfInBounds_toArray, List.set_cons_succ, List.set_cons_zero]
    refine wpAnyH_take (i := 1) (v := ?_) rfl (by kernel_rfl) (by kernel_rfl) (by kernel_rfl) (fun _ _ _ h => h) (Or.inl ⟨rfl, ?_⟩) hHeld ?_
    rotate_left
    · intro w' hS; obtain ⟨sF, ⟨a0, a1, a2, a3, a4, a5, a6, a7⟩, ⟨b0, b1, b2, b3, b4, b5, b6, b7⟩⟩ := hS; go_simp <;> with_reducible rfl
    simp only [Act.put, List.getElem_toArray, List.getElem_cons_succ, List.getElem_cons_zero, List.setIfInBounds_toArray, List.set_cons_succ, List.set_cons_zero]
    refine wpAnyH_take (i := 2) (v := ?_) rfl (by kernel_rfl) (by kernel_rfl) (by kernel_rfl) (fun _ _ _ h => h) (Or.inl ⟨rfl, ?_⟩) hHeld ?_
    rotate_left
    · intro w' hS; obtain ⟨sF, ⟨a0, a1, a2, a3, a4, a5, a6, a7⟩, ⟨b0, b1, b2, b3, b4, b5, b6, b7⟩⟩ := hS; go_simp <;> with_reducible rfl
    simp only [Act.put, List.getElem_toArray, List.getElem_cons_succ, List.getElem_cons_zero, List.setIfInBounds_toArray, List.set_cons_succ, List.set_cons_zero]
    refine wpAnyH_ready (rs := [3]) (by kernel_rfl) (by simp) (AllReadyH.cons rfl (fun K hK => ?_) AllReadyH.nil)
    go_simp
    refine (calmClosure_any k g1 f _ hk (by exact hc.c1) (by exact hc.l1)).mono ?_
    rintro e w1 ⟨rfl, hb⟩
    rw [H1.out]
    have ht := below_then (below1 w _).drew hb (by simp)
    have hc1 := hc.below hb
    have hp1 := hp.drew.below hb
    refine hK.out _ _ (calmS_of hc1 hp1) (fun hHeld => ?_)
    clear hK K
    try simp only [Act.put, List.getElem_toArray, List.getElem_cons_succ, List.getElem_cons_zero, List.setIfInBounds_toArray, List.set_cons_succ, List.set_cons_zero]
    refine wpAnyH_take (i := 4) (v := ?_) rfl (by kernel_rfl) (by kernel_rfl) (by kernel_rfl) (fun _ _ _ h => h) (Or.inl ⟨rfl, ?_⟩) hHeld ?_
    rotate_left
    · intro w' hS; obtain ⟨sF, ⟨a0, a1, a2, a3, a4, a5, a6, a7⟩, ⟨b0, b1, b2, b3, b4, b5, b6, b7⟩⟩ := hS; go_simp <;> with_reducible rfl
    simp only [Act.put, List.getElem_toArray, List.getElem_cons_succ, List.getElem_cons_zero, List.setIfInBounds_toArray, List.set_cons_succ, List.set_cons_zero]
    refine wpAnyH_take (i := 5) (v := undef) rfl (by kernel_rfl) (by kernel_rfl) (by kernel_rfl) (fun _ _ _ h => h) (Or.inr ⟨by simp [Region.wanted, yielded], rfl⟩) hHeld ?_
    simp only [Act.put, List.getElem_toArray, List.getElem_cons_succ, List.getElem_cons_zero, List.setIfInBounds_toArray, List.set_cons_succ, List.set_cons_zero]
    refine wpAnyH_take (i := 6) (v := undef) rfl (by kernel_rfl) (by kernel_rfl) (by kernel_rfl) (fun _ _ _ h => h) (Or.inr ⟨by simp [Region.wanted, yielded], rfl⟩) hHeld ?_
    simp only [Act.put, List.getElem_toArray, List.getElem_cons_succ, List.getElem_cons_zero, List.setIfInBounds_toArray, List.set_cons_succ, List.set_cons_zero]
    refine wpAnyH_take (i := 7) (v := undef) rfl (by kernel_rfl) (by kernel_rfl) (by kernel_rfl) (fun _ _ _ h => h) (Or.inr ⟨by simp [Region.wanted, yielded], rfl⟩) hHeld ?_
    simp only [Act.put, List.getElem_toArray, List.getElem_cons_succ, List.getElem_cons_zero, List.setIfInBounds_toArray, List.set_cons_succ, List.set_cons_zero]
    refine wpAnyH_take (i := 8) (v := undef) rfl (by kernel_rfl) (by kernel_rfl) (by kernel_rfl) (fun _ _ _ h => h) (Or.inr ⟨by simp [Region.wanted, yielded], rfl⟩) hHeld ?_
    simp only [Act.put, List.getElem_toArray, List.getElem_cons_succ, List.getElem_cons_zero, List.setIfInBounds_toArray, List.set_cons_succ, List.set_cons_zero]
    refine wpAnyH_take (i := 9) (v := undef) rfl (by kernel_rfl) (by kernel_rfl) (by kernel_rfl) (fun _ _ _ h => h) (Or.inr ⟨by simp [Region.wanted, yielded], rfl⟩) hHeld ?_
    simp only [Act.put, List.getElem_toArray, List.getElem_cons_succ, List.getElem_cons_zero, List.setIfInBounds_toArray, List.set_cons_succ, List.set_cons_zero]
    refine wpAnyH_take (i := 10) (v := undef) rfl (by kernel_rfl) (by kernel_rfl) (by kernel_rfl) (fun _ _ _ h => h) (Or.inr ⟨by simp [Region.wanted, yielded], rfl⟩) hHeld ?_
    simp only [Act.put, List.getElem_toArray, List.getElem_cons_succ, List.getElem_cons_zero, List.setIfInBounds_toArray, List.set_cons_succ, List.set_cons_zero]
    refine wpAnyH_take (i := 11) (v := undef) rfl (by kernel_rfl) (by kernel_rfl) (by kernel_rfl) (fun _ _ _ h => h) (Or.inr ⟨by simp [Region.wanted, yielded], rfl⟩) hHeld ?_
    simp only [Act.put, List.getElem_toArray, List.getElem_cons_succ, List.getElem_cons_zero, List.setIfInBounds_toArray, List.set_cons_succ, List.set_cons_zero]
    refine wpAnyH_take (i := 12) (v := ?_) rfl (by kernel_rfl) (by kernel_rfl) (by kernel_rfl) (fun _ _ _ h => h) (Or.inl ⟨rfl, ?_⟩) hHeld ?_
    rotate_left
    · intro w' hS; obtain ⟨sF, ⟨a0, a1, a2, a3, a4, a5, a6, a7⟩, ⟨b0, b1, b2, b3, b4, b5, b6, b7⟩⟩ := hS; go_simp <;> with_reducible rfl
    simp only [Act.put, List.getElem_toArray, List.getElem_cons_succ, List.getElem_cons_zero, List.setIfInBounds_toArray, List.set_cons_succ, List.set_cons_zero]
    refine wpAnyH_take (i := 13) (v := ?_) rfl (by kernel_rfl) (by kernel_rfl) (by kernel_rfl) (fun _ _ _ h => h) (Or.inl ⟨rfl, ?_⟩) hHeld ?_
    rotate_left
    · intro w' hS; obtain ⟨sF, ⟨a0, a1, a2, a3, a4, a5, a6, a7⟩, ⟨b0, b1, b2, b3, b4, b5, b6, b7⟩⟩ := hS; go_simp <;> with_reducible rfl
    simp only [Act.put, List.getElem_toArray, List.getElem_cons_succ, List.getElem_cons_zero, List.setIfInBounds_toArray, List.set_cons_succ, List.set_cons_zero]
    refine wpAnyH_done (by kernel_rfl) ?_ _
    clear hHeld
    go_wp2
    go_ret
    exact ⟨ret_of (by rw [HP.out]; rfl), ht⟩
  · have HP := Lib.hid (quiet_yes h1)
    have HR := Lib.hid (calm_out (k := k) (f := f))
    have H1 := Lib.hid h1
    clear h1
    unfold place9 at *
    go_enter Try.func131, Try.ntmps131
    go_wp2_with fail
    refine wp_region_held_drew (S := (CalmS w.heap.size g1 g3 g4 f (firstN (2 * k)))) (by kernel_rfl) (calmS_of hc hp.drew) (fun hHeld => ?_)
    refine wpAnyH_take (i := 0) (v := ?_) rfl (by kernel_rfl) (by kernel_rfl) (by kernel_rfl) (fun _ _ _ h => h) (Or.inl ⟨rfl, ?_⟩) hHeld ?_
    rotate_left
    · intro w' hS; obtain ⟨sF, ⟨a0, a1, a2, a3, a4, a5, a6, a7⟩, ⟨b0, b1, b2, b3, b4, b5, b6, b7⟩⟩ := hS; go_simp <;> with_reducible rfl
    simp only [Act.put, List.getElem_toArray, List.getElem_cons_succ, List.getElem_cons_zero, List.setIfInBounds_toArray, List.set_cons_succ, List.set_cons_zero]
    refine wpAnyH_take (i := 1) (v := ?_) rfl (by kernel_rfl) (by kernel_rfl) (by kernel_rfl) (fun _ _ _ h => h) (Or.inl ⟨rfl, ?_⟩) hHeld ?_
    rotate_left
    · intro w' hS; obtain ⟨sF, ⟨a0, a1, a2, a3, a4, a5, a6, a7⟩, ⟨b0, b1, b2, b3, b4, b5, b6, b7⟩⟩ := hS; go_simp <;> with_reducible rfl
    simp only [Act.put, List.getElem_toArray, List.getElem_cons_succ, List.getElem_cons_zero, List.setIfInBounds_toArray, List.set_cons_succ, List.set_cons_zero]
    refine wpAnyH_take (i := 2) (v := ?_) rfl (by kernel_rfl) (by kernel_rfl) (by kernel_rfl) (fun _ _ _ h => h) (Or.inl ⟨rfl, ?_⟩) hHeld ?_
    rotate_left
    · intro w' hS; obtain ⟨sF, ⟨a0, a1, a2, a3, a4, a5, a6, a7⟩, ⟨b0, b1, b2, b3, b4, b5, b6, b7⟩⟩ := hS; go_simp <;> with_reducible rfl
    simp only [Act.put, List.getElem_toArray, List.getElem_cons_succ, List.getElem_cons_zero, List.setIfInBounds_toArray, List.set_cons_succ, List.set_cons_zero]
    refine wpAnyH_ready (rs := [3]) (by kernel_rfl) (by simp) (AllReadyH.cons rfl (fun K hK => ?_) AllReadyH.nil)
    go_simp
    refine (calmClosure_any k g1 f _ hk (by exact hc.c1) (by exact hc.l1)).mono ?_
    rintro e w1 ⟨rfl, hb⟩
    rw [H1.out]
    have ht := below_then (below1 w _).drew hb (by simp)
    have hc1 := hc.below hb
    have hp1 := hp.drew.below hb
    refine hK.out _ _ (calmS_of hc1 hp1) (fun hHeld => ?_)
    clear hK K
    try simp only [Act.put, List.getElem_toArray, List.getElem_cons_succ, List.getElem_cons_zero, List.setIfInBounds_toArray, List.set_cons_succ, List.set_cons_zero]
    refine wpAnyH_take (i := 4) (v := ?_) rfl (by kernel_rfl) (by kernel_rfl) (by kernel_rfl) (fun _ _ _ h => h) (Or.inl ⟨rfl, ?_⟩) hHeld ?_
    rotate_left
    · intro w' hS; obtain ⟨sF, ⟨a0, a1, a2, a3, a4, a5, a6, a7⟩, ⟨b0, b1, b2, b3, b4, b5, b6, b7⟩⟩ := hS; go_simp <;> with_reducible rfl
    simp only [Act.put, List.getElem_toArray, List.getElem_cons_succ, List.getElem_cons_zero, List.setIfInBounds_toArray, List.set_cons_succ, List.set_cons_zero]
    refine wpAnyH_take (i := 5) (v := ?_) rfl (by kernel_rfl) (by kernel_rfl) (by kernel_rfl) (fun _ _ _ h => h) (Or.inl ⟨rfl, ?_⟩) hHeld ?_
    rotate_left
    · intro w' hS; obtain ⟨sF, ⟨a0, a1, a2, a3, a4, a5, a6, a7⟩, ⟨b0, b1, b2, b3, b4, b5, b6, b7⟩⟩ := hS; go_simp <;> with_reducible rfl
    simp only [Act.put, List.getElem_toArray, List.getElem_cons_succ, List.getElem_cons_zero, List.setIfInBounds_toArray, List.set_cons_succ, List.set_cons_zero]
    refine wpAnyH_take (i := 6) (v := ?_) rfl (by kernel_rfl) (by kernel_rfl) (by kernel_rfl) (fun _ _ _ h => h) (Or.inl ⟨rfl, ?_⟩) hHeld ?_
    rotate_left
    · intro w' hS; obtain ⟨sF, ⟨a0, a1, a2, a3, a4, a5, a6, a7⟩, ⟨b0, b1, b2, b3, b4, b5, b6, b7⟩⟩ := hS; go_simp <;> with_reducible rfl
    simp only [Act.put, List.getElem_toArray, List.getElem_cons_succ, List.getElem_cons_zero, List.setIfInBounds_toArray, List.set_cons_succ, List.set_cons_zero]
    refine wpAnyH_take (i := 7) (v := ?_) rfl (by kernel_rfl) (by kernel_rfl) (by kernel_rfl) (fun _ _ _ h => h) (Or.inl ⟨rfl, ?_⟩) hHeld ?_
    rotate_left
    · intro w' hS; obtain ⟨sF, ⟨a0, a1, a2, a3, a4, a5, a6, a7⟩, ⟨b0, b1, b2, b3, b4, b5, b6, b7⟩⟩ := hS; go_simp <;> with_reducible rfl
    simp only [Act.put, List.getElem_toArray, List.getElem_cons_succ, List.getElem_cons_zero, List.setIfInBounds_toArray, List.set_cons_succ, List.set_cons_zero]
    refine wpAnyH_take (i := 8) (v := ?_) rfl (by kernel_rfl) (by kernel_rfl) (by kernel_rfl) (fun _ _ _ h => h) (Or.inl ⟨rfl, ?_⟩) hHeld ?_
    rotate_left
    · intro w' hS; obtain ⟨sF, ⟨a0, a1, a2, a3, a4, a5, a6, a7⟩, ⟨b0, b1, b2, b3, b4, b5, b6, b7⟩⟩ := hS; go_simp <;> with_reducible rfl
    simp only [Act.put, List.getElem_toArray, List.getElem_cons_succ, List.getElem_cons_zero, List.setIfInBounds_toArray, List.set_cons_succ, List.set_cons_zero]
    refine wpAnyH_take (i := 9) (v := ?_) rfl (by kernel_rfl) (by kernel_rfl) (by kernel_rfl) (fun _ _ _ h => h) (Or.inl ⟨rfl, ?_⟩) hHeld ?_
    rotate_left
    · intro w' hS; obtain ⟨sF, ⟨a0, a1, a2, a3, a4, a5, a6, a7⟩, ⟨b0, b1, b2, b3, b4, b5, b6, b7⟩⟩ := hS; go_simp <;> with_reducible rfl
    simp only [Act.put, List.getElem_toArray, List.getElem_cons_succ, List.getElem_cons_zero, List.setIfInBounds_toArray, List.set_cons_succ, List.set_cons_zero]
    refine wpAnyH_ready (rs := [10]) (by kernel_rfl) (by simp) (AllReadyH.cons rfl (fun K hK => ?_) AllReadyH.nil)
    go_simp
    refine (without_any (firstN (2 * k)) f _).mono ?_
    rintro e w2 ⟨rfl, hb⟩
    replace ht := below_then ht hb ht.size
    have hc2 := hc1.below hb
    have hp2 := hp1.below hb
    refine hK.out _ _ (calmS_of hc2 hp2) (fun hHeld => ?_)
    clear hK K
    try simp only [Act.put, List.getElem_toArray, List.getElem_cons_succ, List.getElem_cons_zero, List.setIfInBounds_toArray, List.set_cons_succ, List.set_cons_zero]
    refine wpAnyH_ready (rs := [11]) (by kernel_rfl) (by simp) (AllReadyH.cons rfl (fun K hK => ?_) AllReadyH.nil)
    go_simp
    refine (calmClosure_any k g1 (fun i => firstN (2 * k) i && !f i) _ hk (by exact hc2.c1) (by exact hc2.l1)).mono ?_
    rintro e w3 ⟨rfl, hb⟩
    replace ht := below_then ht hb ht.size
    rw [HR.out]
    refine hK.out _ _ (calmS_of (hc2.below hb) (hp2.below hb)) (fun hHeld => ?_)
    clear hK K
    try simp only [Act.put, List.getElem_toArray, List.getElem_cons_succ, List.getElem_cons_zero, List.setIfInBounds_toArray, List.set_cons_succ, List.set_cons_zero]
    refine wpAnyH_take (i := 12) (v := ?_) rfl (by kernel_rfl) (by kernel_rfl) (by kernel_rfl) (fun _ _ _ h => h) (Or.inl ⟨rfl, ?_⟩) hHeld ?_
    rotate_left
    · intro w' hS; obtain ⟨sF, ⟨a0, a1, a2, a3, a4, a5, a6, a7⟩, ⟨b0, b1, b2, b3, b4, b5, b6, b7⟩⟩ := hS; go_simp <;> with_reducible rfl
    simp only [Act.put, List.getElem_toArray, List.getElem_cons_succ, List.getElem_cons_zero, List.setIfInBounds_toArray, List.set_cons_succ, List.set_cons_zero]
    refine wpAnyH_take (i := 13) (v := ?_) rfl (by kernel_rfl) (by kernel_rfl) (by kernel_rfl) (fun _ _ _ h => h) (Or.inl ⟨rfl, ?_⟩) hHeld ?_
    rotate_left
    · intro w' hS; obtain ⟨sF, ⟨a0, a1, a2, a3, a4, a5, a6, a7⟩, ⟨b0, b1, b2, b3, b4, b5, b6, b7⟩⟩ := hS; go_simp <;> with_reducible rfl
    simp only [Act.put, List.getElem_toArray, List.getElem_cons_succ, List.getElem_cons_zero, List.setIfInBounds_toArray, List.set_cons_succ, List.set_cons_zero]
    refine wpAnyH_done (by kernel_rfl) ?_ _
    clear hHeld
    go_wp2
    go_ret
    exact ⟨ret_of (by rw [HP.out]; rfl), ht⟩
end Go.Proofs.Ytjkiclhihhhpmaa

namespace Go.Proofs.Ytjkiclhihhhpmaa
open Go.RowKit

theorem Whole.cells1 {w : World} {g : Nat} {t : TypeId} {a : Value} (h : Whole w g t #[a]) : w.cell? ⟨g, 0, none⟩ = some a := h.cell 0
theorem Whole.cells2 {w : World} {g : Nat} {t : TypeId} {a b : Value} (h : Whole w g t #[a, b]) : w.cell? ⟨g, 0, none⟩ = some a ∧ w.cell? ⟨g, 1, none⟩ = some b := ⟨h.cell 0, h.cell 1⟩
theorem Whole.cells3 {w : World} {g : Nat} {t : TypeId} {a b c : Value} (h : Whole w g t #[a, b, c]) : w.cell? ⟨g, 0, none⟩ = some a ∧ w.cell? ⟨g, 1, none⟩ = some b ∧ w.cell? ⟨g, 2, none⟩ = some c := ⟨h.cell 0, h.cell 1, h.cell 2⟩
end Go.Proofs.Ytjkiclhihhhpmaa

namespace Go.Proofs.Ytjkiclhihhhpmaa
open Go.RowKit

/-- One list among others: where it lies, its length, its room, its numbers. -/
structure RowV where
  A : Option Addr
  n : Nat
  c : Nat
  xs : List Int
def RowV.val (r : RowV) : Value := .slice r.A r.n r.c
def rowVals (rs : List RowV) : List Value := rs.map RowV.val
def rowNums (rs : List RowV) : List (List Int) := rs.map RowV.xs
theorem rowVals_len (rs : List RowV) : (rowVals rs).length = rs.length := by simp [rowVals]
theorem rowNums_len (rs : List RowV) : (rowNums rs).length = rs.length := by simp [rowNums]
def RowOk (w : World) (r : RowV) : Prop := Holds w r.A (nums r.xs) ∧ r.xs.length = r.n ∧ r.n ≤ 9223372036854775807
/-- From A on the world holds these lists. -/
def Grid (w : World) (A : Option Addr) (rs : List RowV) : Prop := Holds w A (rowVals rs) ∧ ∀ r ∈ rs, RowOk w r
theorem RowOk.below {w w' : World} {r : RowV} (h : RowOk w r) (hb : Below w.heap.size w w') : RowOk w' r := ⟨h.1.below hb, h.2⟩
theorem Grid.below {w w' : World} {A : Option Addr} {rs : List RowV} (h : Grid w A rs) (hb : Below w.heap.size w w') : Grid w' A rs := ⟨h.1.below hb, fun r hr => (h.2 r hr).below hb⟩
theorem Grid.alloc {w : World} {A : Option Addr} {rs : List RowV} (h : Grid w A rs) (o : Obj) : Grid (w.alloc o) A rs := h.below (below1 w o)
theorem Grid.drew {w : World} {A : Option Addr} {rs : List RowV} (h : Grid w A rs) : Grid w.drew A rs := h
theorem Grid.look {w : World} {A : Option Addr} {rs : List RowV} (h : Grid w A rs) {k : Nat} (hk : k < rs.length) :
    ∃ b o, A = some ⟨b, o, none⟩ ∧ b < w.heap.size ∧ w.cell? ⟨b, o + k, none⟩ = some (.slice rs[k].A rs[k].n rs[k].c) ∧ RowOk w rs[k] := by
  obtain ⟨b, o, hA, hb, hc⟩ := h.1.look (k := k) (by rw [rowVals_len]; exact hk)
  refine ⟨b, o, hA, hb, ?_, h.2 _ (List.getElem_mem hk)⟩
  rw [hc]
  simp [rowVals, RowV.val]

/-- The lengths of the first k lists together. -/
def part (rs : List RowV) (k : Nat) : Nat := ((rs.take k).map RowV.n).sum
/-- The length and all lengths together. -/
def total (rs : List RowV) : Nat := rs.length + part rs rs.length
theorem part_zero (rs : List RowV) : part rs 0 = 0 := rfl
theorem part_next {rs : List RowV} {k : Nat} (hk : k < rs.length) : part rs (k + 1) = part rs k + rs[k].n := by
  rw [part, part, List.take_succ_eq_append_getElem hk, List.map_append, List.sum_append]
  simp
theorem part_le {rs : List RowV} : ∀ {k : Nat}, k ≤ rs.length → ∀ {j : Nat}, j ≤ k → part rs j ≤ part rs k
  | 0, _, j, hj => by obtain rfl : j = 0 := by omega
                      exact Nat.le_refl _
  | k + 1, hk, j, hj => by
    rcases Nat.lt_or_ge j (k + 1) with h | h
    · have h1 := part_le (rs := rs) (k := k) (by omega) (j := j) (by omega)
      have h2 := part_next (rs := rs) (k := k) (by omega)
      omega
    · obtain rfl : j = k + 1 := by omega
      exact Nat.le_refl _
theorem total_row {rs : List RowV} {k : Nat} (hk : k < rs.length) : rs[k].n ≤ total rs := by
  have h1 := part_next hk
  have h2 := part_le (rs := rs) (Nat.le_refl _) (j := k + 1) (by omega)
  unfold total
  omega
theorem total_len (rs : List RowV) : rs.length ≤ total rs := by unfold total; omega
def totalLeft (rs : List RowV) (l : Int) : Int := if l < (total rs : Int) then -1 else l - (total rs : Int)
theorem totalLeft_no {rs : List RowV} {l : Int} {k : Nat} (hk : k ≤ rs.length) (h : l < (rs.length : Int) + (part rs k : Int)) : totalLeft rs l = -1 := by
  have h2 := part_le (rs := rs) (Nat.le_refl _) (j := k) hk
  rw [totalLeft, if_pos (by unfold total; omega)]
theorem totalLeft_yes {rs : List RowV} {l : Int} (h : (rs.length : Int) + (part rs rs.length : Int) ≤ l) : totalLeft rs l = l - ((rs.length : Int) + (part rs rs.length : Int)) := by
  rw [totalLeft, if_neg (by unfold total; omega)]
  unfold total
  omega

set_option maxHeartbeats 800000 in
theorem szIntSS_any (A : Option Addr) (n c : Nat) (rs : List RowV) (l : Int) (w : World) (hA : Grid w A rs) (hx : rs.length = n) (hn : n ≤ 9223372036854775807) (h0 : 0 ≤ l) (h1 : l ≤ 1048576) :
    Calls Try.prog 35 #[.slice A n c, .int .i64 l] w fun e w' => e = .returned (.int .i64 (totalLeft rs l)) ∧ w = w' := by
  subst hx
  by_cases h : l < rs.length
  · have h' : l - rs.length < 0 := by omega
    have HN := Lib.hid (totalLeft_no (rs := rs) (k := 0) (l := l) (Nat.zero_le _) (by rw [part_zero]; omega))
    go_enter Try.func35, Try.ntmps35
    go_wp2
    go_ret
    exact ⟨ret_of (by rw [HN.out]; rfl), rfl⟩
  · have h' : ¬ l - rs.length < 0 := by omega
    go_enter Try.func35, Try.ntmps35
    go_wp2
    go_loop [1, 5] (fun v i => ∃ (k : Nat) (x : Int), k ≤ rs.length ∧ i = .int .i64 k ∧ v = .int .i64 x ∧ 0 ≤ x ∧ x ≤ 1048576 ∧ x + (rs.length : Int) + (part rs k : Int) = l) (fun _ i => rs.length - (intOf i).toNat)
    case atStart => exact ⟨0, _, Nat.zero_le _, rfl, rfl, by omega, by omega, by rw [part_zero]; omega⟩
    case round =>
      obtain ⟨k, x, hk, rfl, rfl, hx0, hx1, hl⟩ := hrel
      by_cases hlt : k < rs.length
      · obtain ⟨b, o, rfl, hb, hc, hok⟩ := hA.look hlt
        have hp := part_next hlt
        by_cases hs : x < rs[k].n
        · have HN := Lib.hid (totalLeft_no (rs := rs) (k := k + 1) (l := l) (by omega) (by omega))
          clear hl hp h h'
          go_wp2_with (go_at_call 77; refine (szIntS_any _ _ _ _ _ hok.2.2 hx0 hx1).mono ?_; rintro e w' ⟨rfl, rfl⟩; rw [if_pos hs])
          go_ret
          exact ⟨ret_of (by rw [HN.out]; rfl), rfl⟩
        · have hl2 : x - rs[k].n + (rs.length : Int) + (part rs (k + 1) : Int) = l := by omega
          have HL := Lib.hid hl2
          have hx2 : 0 ≤ x - (rs[k].n : Int) := by omega
          have hx3 : x - (rs[k].n : Int) ≤ 1048576 := by omega
          clear hl hp h h' hl2
          go_wp2_with (go_at_call 77; refine (szIntS_any _ _ _ _ _ hok.2.2 hx0 hx1).mono ?_; rintro e w' ⟨rfl, rfl⟩; rw [if_neg hs])
          go_round
          case rel => exact ⟨k + 1, _, by omega, by go_num, rfl, hx2, hx3, HL.out⟩
          case measure => simp [intOf]; omega
      · have hkn : k = rs.length := by omega
        subst hkn
        have HN := Lib.hid (totalLeft_yes (rs := rs) (l := l) (by omega))
        have HV := Lib.hid (show x = l - ((rs.length : Int) + (part rs rs.length : Int)) by omega)
        clear hl h h'
        go_wp2
        go_ret
        exact ⟨ret_of (by rw [HN.out, ← HV.out]; rfl), rfl⟩
end Go.Proofs.Ytjkiclhihhhpmaa

namespace Go.Proofs.Ytjkiclhihhhpmaa
open Go.RowKit

def hasK (l : List Int) (x : Int) : Bool := l.contains x

set_option maxHeartbeats 800000 in
theorem l1Has_any (A : Option Addr) (n c : Nat) (l : List Int) (x : Int) (w : World) (hA : Holds w A (nums l)) (hx : l.length = n) (hn : n ≤ 1048576) :
    Calls Try.prog 117 #[.slice A n c, .int .i64 x] w fun e w' => e = .returned (.bool (hasK l x)) ∧ w = w' := by
  subst hx
  go_enter Try.func117, Try.ntmps117
  go_wp2
  go_loop [9] (fun i => ∃ j : Nat, j ≤ l.length ∧ i = .int .i64 j ∧ ∀ q (hq : q < l.length), q < j → l[q] ≠ x) (fun i => l.length - (intOf i).toNat)
  case atStart => exact ⟨0, Nat.zero_le _, rfl, fun q _ h => by omega⟩
  case round =>
    obtain ⟨j, hj, rfl, hs⟩ := hrel
    by_cases hlt : j < l.length
    · obtain ⟨b, o, rfl, hb, hc⟩ := hA.look (k := j) (by simpa [nums] using hlt)
      simp only [nums, List.getElem_map] at hc
      by_cases he : l[j] = x
      · have HQ : Hid (hasK l x = true) := by show l.contains x = _; rw [List.contains_iff_mem, ← he]; exact List.getElem_mem hlt
        have hbe : (l[j] == x) = true := by simp [he]
        clear he hs
        go_wp2
        go_ret
        exact ⟨ret_of (by rw [HQ.out]; rfl), rfl⟩
      · have hbe : (l[j] == x) = false := by simp [he]
        have HE := Lib.hid he
        have HS := Lib.hid hs
        clear he hs
        go_wp2
        go_round
        case rel => exact ⟨j + 1, by omega, by go_num, fun q hq h => by
          rcases Nat.lt_succ_iff_lt_or_eq.1 h with h | rfl
          · exact HS.out q hq h
          · exact HE.out⟩
        case measure => simp [intOf]; omega
    · have HQ : Hid (hasK l x = false) := by
        show l.contains x = _
        rw [Bool.eq_false_iff]
        intro h
        obtain ⟨q, hq, he⟩ := List.getElem_of_mem (List.contains_iff_mem.1 h)
        exact hs q hq (by omega) he
      clear hs
      go_wp2
      go_ret
      exact ⟨ret_of (by rw [HQ.out]; rfl), rfl⟩

def NoneI (bs : List Int) (t : Int) (k : Nat) : Prop := ∀ j (h : j < bs.length), j < k → bs[j] ≠ t
theorem NoneI.next {bs : List Int} {t : Int} {k : Nat} (h : NoneI bs t k) (hk : k < bs.length) (hne : bs[k] ≠ t) : NoneI bs t (k + 1) := fun j hj hlt => by
  rcases (show j < k ∨ j = k by omega) with h1 | h1
  · exact h j hj h1
  · subst h1
    exact hne
def IndexI (bs : List Int) (t : Int) (w : World) (e : Ending) (w' : World) : Prop := ∃ r : Int, e = .returned (.int .i64 r) ∧ decide (0 ≤ r) = bs.any (· == t) ∧ w = w'

set_option maxHeartbeats 400000 in
theorem sliceIndexI_any (B : Option Addr) (m d : Nat) (bs : List Int) (t : Int) (w : World) (hB : Holds w B (nums bs)) (hy : bs.length = m) (hm : m ≤ 9223372036854775807) :
    Calls Try.prog 123 #[.slice B m d, .int .i64 t] w (IndexI bs t w) := by
  subst hy
  go_enter Try.func123, Try.ntmps123
  go_wp2
  go_loop [8] (fun i => ∃ k : Nat, k ≤ bs.length ∧ i = .int .i64 k ∧ NoneI bs t k) (fun i => bs.length - (intOf i).toNat)
  case atStart => exact ⟨0, Nat.zero_le _, rfl, fun _ _ h => absurd h (by omega)⟩
  case round =>
    obtain ⟨k, hk, rfl, hs⟩ := hrel
    by_cases hlt : k < bs.length
    · obtain ⟨b, o, rfl, hb, hc⟩ := hB.look (k := k) (by simpa [nums] using hlt)
      simp only [nums, List.getElem_map] at hc
      by_cases he : bs[k] = t
      · have HP : Hid (bs.any (· == t) = true) := by
          show _ = _
          rw [List.any_eq_true]
          exact ⟨bs[k], List.getElem_mem hlt, by simp [he]⟩
        have ht : (t == bs[k]) = true := by simp [he]
        clear he
        go_wp2
        go_ret
        exact ⟨(k : Int), rfl, by rw [HP.out]; simp, rfl⟩
      · have ht : (t == bs[k]) = false := by simp; exact fun h => he h.symm
        have HN := Lib.hid he
        have HS := Lib.hid hs
        clear he hs
        go_wp2
        go_round
        case rel => exact ⟨k + 1, by omega, by go_num, NoneI.next HS.out hlt HN.out⟩
        case measure => simp [intOf]; omega
    · have HP : Hid (bs.any (· == t) = false) := by
        show _ = _
        rw [List.any_eq_false]
        intro x hx
        obtain ⟨j, hj, rfl⟩ := List.getElem_of_mem hx
        simpa using hs j hj (by omega)
      clear hs
      go_wp2
      go_ret
      exact ⟨-1, rfl, by rw [HP.out]; rfl, rfl⟩

set_option maxHeartbeats 400000 in
theorem containsI_any (B : Option Addr) (m d : Nat) (bs : List Int) (t : Int) (w : World) (hB : Holds w B (nums bs)) (hy : bs.length = m) (hm : m ≤ 9223372036854775807) :
    Calls Try.prog 92 #[.slice B m d, .int .i64 t] w fun e w' => e = .returned (.bool (bs.any (· == t))) ∧ w = w' := by
  have HY := Lib.hid hy
  clear hy
  go_enter Try.func92, Try.ntmps92
  go_wp2_with fail
  refine (sliceIndexI_any B m d bs t _ hB HY.out hm).mono ?_
  rintro e w' ⟨r, rfl, hr, rfl⟩
  have HR := Lib.hid hr
  clear hr
  go_wp2
  go_ret
  exact ⟨ret_of (by rw [← HR.out]; rfl), rfl⟩
end Go.Proofs.Ytjkiclhihhhpmaa

namespace Go.Proofs.Ytjkiclhihhhpmaa
open Go.RowKit

/-- Isles, told in plain words. -/
def isIsl (a b d : Int) : Bool := within a 1 3 && within b 1 3 && within d 0 2
theorem isIsl_iff {a b d : Int} : isIsl a b d = true ↔ (1 ≤ a ∧ a ≤ 3) ∧ (1 ≤ b ∧ b ≤ 3) ∧ 0 ≤ d ∧ d ≤ 2 := by
  simp only [isIsl, Bool.and_eq_true, within_iff]; omega
theorem isIsl_no {a b d : Int} (h : a < 1 ∨ 3 < a ∨ b < 1 ∨ 3 < b ∨ d < 0 ∨ 2 < d) : isIsl a b d = false := by
  cases h1 : isIsl a b d
  · rfl
  · rw [isIsl_iff] at h1; omega

set_option maxHeartbeats 400000 in
theorem isGood_any (a b d : Int) (w : World) :
    Calls Try.prog 81 #[.agg #[.int .i64 a, .int .i64 b, .int .i64 d]] w fun e w' => e = .returned (.bool (isIsl a b d)) ∧ Below w.heap.size w w' := by
  cases h1 : within a 1 3
  · have HP : Hid (isIsl a b d = false) := by show _ = _; simp [isIsl, h1]
    have H1 := Lib.hid h1
    clear h1
    go_enter Try.func81, Try.ntmps81
    go_wp2_with fail
    refine (l1In_any _ _ _ _).mono ?_
    rintro e w' ⟨rfl, rfl⟩
    rw [H1.out]
    go_wp2
    go_ret
    exact ⟨ret_of (by rw [HP.out]; rfl), below1 w _⟩
  · cases h2 : within b 1 3
    · have HP : Hid (isIsl a b d = false) := by show _ = _; simp [isIsl, h2]
      have H1 := Lib.hid h1
      have H2 := Lib.hid h2
      clear h1 h2
      go_enter Try.func81, Try.ntmps81
      go_wp2_with fail
      refine (l1In_any _ _ _ _).mono ?_
      rintro e w' ⟨rfl, rfl⟩
      rw [H1.out]
      go_wp2_with fail
      refine (l1In_any _ _ _ _).mono ?_
      rintro e w' ⟨rfl, rfl⟩
      rw [H2.out]
      go_wp2
      go_ret
      exact ⟨ret_of (by rw [HP.out]; rfl), below1 w _⟩
    · have HP : Hid (isIsl a b d = within d 0 2) := by show _ = _; simp [isIsl, h1, h2]
      have H1 := Lib.hid h1
      have H2 := Lib.hid h2
      clear h1 h2
      go_enter Try.func81, Try.ntmps81
      go_wp2_with fail
      refine (l1In_any _ _ _ _).mono ?_
      rintro e w' ⟨rfl, rfl⟩
      rw [H1.out]
      go_wp2_with fail
      refine (l1In_any _ _ _ _).mono ?_
      rintro e w' ⟨rfl, rfl⟩
      rw [H2.out]
      go_wp2_with fail
      refine (l1In_any _ _ _ _).mono ?_
      rintro e w' ⟨rfl, rfl⟩
      go_wp2
      go_ret
      exact ⟨ret_of (by rw [HP.out]; rfl), below1 w _⟩

set_option maxHeartbeats 400000 in
theorem specIsIsles_any (a b d : Int) (w : World) :
    Calls Try.prog 39 #[.agg #[.int .i64 a, .int .i64 b, .int .i64 d]] w fun e w' => e = .returned (.bool (isIsl a b d)) ∧ Below w.heap.size w w' := by
  go_enter Try.func39, Try.ntmps39
  go_wp2_with fail
  refine (isGood_any a b d _).mono ?_
  rintro e w' ⟨rfl, hb⟩
  have ht := below_then (below1 w _) hb (by simp)
  clear hb
  go_wp2
  go_ret
  exact ⟨rfl, ht⟩

set_option maxHeartbeats 800000 in
theorem isIsles_any (a b d : Int) (w : World) :
    Calls Try.prog 41 #[.agg #[.int .i64 a, .int .i64 b, .int .i64 d]] w fun e w' => e = .returned (.bool (isIsl a b d)) ∧ Below w.heap.size w w' := by
  by_cases h1 : 1 ≤ a
  · by_cases h2 : a ≤ 3
    · by_cases h3 : 1 ≤ b
      · by_cases h4 : b ≤ 3
        · by_cases h5 : 0 ≤ d
          · by_cases h6 : d ≤ 2
            · have HW := Lib.hid (show isIsl a b d = true from isIsl_iff.2 ⟨⟨h1, h2⟩, ⟨h3, h4⟩, h5, h6⟩)
              go_enter Try.func41, Try.ntmps41
              go_wp2
              go_ret
              exact ⟨ret_of (by rw [HW.out]; rfl), below1 w _⟩
            · have HW := Lib.hid (isIsl_no (a := a) (b := b) (d := d) (by omega))
              go_enter Try.func41, Try.ntmps41
              go_wp2
              go_ret
              exact ⟨ret_of (by rw [HW.out]; rfl), below1 w _⟩
          · have HW := Lib.hid (isIsl_no (a := a) (b := b) (d := d) (by omega))
            go_enter Try.func41, Try.ntmps41
            go_wp2
            go_ret
            exact ⟨ret_of (by rw [HW.out]; rfl), below1 w _⟩
        · have HW := Lib.hid (isIsl_no (a := a) (b := b) (d := d) (by omega))
          go_enter Try.func41, Try.ntmps41
          go_wp2
          go_ret
          exact ⟨ret_of (by rw [HW.out]; rfl), below1 w _⟩
      · have HW := Lib.hid (isIsl_no (a := a) (b := b) (d := d) (by omega))
        go_enter Try.func41, Try.ntmps41
        go_wp2
        go_ret
        exact ⟨ret_of (by rw [HW.out]; rfl), below1 w _⟩
    · have HW := Lib.hid (isIsl_no (a := a) (b := b) (d := d) (by omega))
      go_enter Try.func41, Try.ntmps41
      go_wp2
      go_ret
      exact ⟨ret_of (by rw [HW.out]; rfl), below1 w _⟩
  · have HW := Lib.hid (isIsl_no (a := a) (b := b) (d := d) (by omega))
    go_enter Try.func41, Try.ntmps41
    go_wp2
    go_ret
    exact ⟨ret_of (by rw [HW.out]; rfl), below1 w _⟩

set_option maxHeartbeats 400000 in
theorem toIsles_any (a b d : Int) (w : World) :
    Calls Try.prog 40 #[.agg #[.int .i64 a, .int .i64 b, .int .i64 d]] w fun e w' => e = .returned (.agg #[.int .i64 a, .int .i64 b, .int .i64 d]) ∧ Below w.heap.size w w' := by
  go_enter Try.func40, Try.ntmps40
  go_wp2
  refine bodyPost_ret (v := .agg #[.int .i64 a, .int .i64 b, .int .i64 d]) (by simp [results, Try.results40, go_sem]) rfl ⟨rfl, ?_⟩
  exact below3 _ _ _ _

end Go.Proofs.Ytjkiclhihhhpmaa

namespace Go.Proofs.Ytjkiclhihhhpmaa
open Go.RowKit

/-- What a call hands back that makes a list of numbers. -/
def NumsPost (bs : List Int) (w : World) (e : Ending) (w' : World) : Prop :=
  ∃ (A : Option Addr) (c : Nat), e = .returned (.slice A bs.length c) ∧ Fresh w' w.heap.size w'.heap.size 3 A (nums bs) ∧ Below w.heap.size w w'
/-- What a call hands back that makes a party and tells whether it did. -/
def PartyPost (xs : List Int) (s : Int) (ok : Bool) (w : World) (e : Ending) (w' : World) : Prop :=
  ∃ (A : Option Addr) (c : Nat), e = .returned (.tuple #[.agg #[.slice A xs.length c, .int .i64 s], .bool ok]) ∧ Fresh w' w.heap.size w'.heap.size 3 A (nums xs) ∧ Below w.heap.size w w'

theorem nums_one (bs : List Int) : ∀ u ∈ nums bs, u.oneCell' = true := by
  intro v hv
  simp only [nums, List.mem_map] at hv
  obtain ⟨x, -, rfl⟩ := hv
  rfl

set_option maxHeartbeats 800000 in
set_option maxRecDepth 100000 in
theorem cloneI_any (b o n d : Nat) (bs : List Int) (w : World) (hB : ∀ j u, (nums bs)[j]? = some u → w.cell? ⟨b, o + j, none⟩ = some u) (hy : bs.length = n) (hn : n ≤ 1048576) :
    Calls Try.prog 99 #[.slice (some ⟨b, o, none⟩) n d] w (NumsPost bs w) := by
  subst hy
  obtain ⟨i0, hi, hz0, hz1, hz2⟩ := info_parts info_int
  have HI := Lib.hid hi
  have HZ0 := Lib.hid hz0
  have HZ1 := Lib.hid hz1
  have HZ2 := Lib.hid hz2
  have HB := Lib.hid hB
  clear hi hz0 hz1 hz2 hB
  go_enter Try.func99, Try.ntmps99
  have hnil := fun (W : World) => Lib.run_eql_slice_nil (P := Try.prog) W 25 3 (some ⟨b, o, none⟩) bs.length d 0 0 Try.underlying25
  have HOWN := Lib.hid (World.ownsRow_made (base := w.heap.size) (e := 3) (size := 1) w #[] 0 (Nat.le_refl _) (by unfold maxLen; omega) rfl)
  have hnews : ∀ j u, (nums bs)[j]? = some u → (w.alloc (.cells #[] 3)).cell? ((⟨b, o, none⟩ : Addr).add j) = some u := fun j u hu => by
    rw [show (⟨b, o, none⟩ : Addr).add j = ⟨b, o + j, none⟩ from by unfold Addr.add; split <;> simp_all]
    have h := HB.out j u hu
    rw [World.cell?_alloc_lt _ _ _ (block_lt_of_cell h)]
    exact h
  have HNEWS := Lib.hid hnews
  have HLEN := Lib.hid (show (nums bs).length = bs.length * 1 by rw [nums_len, Nat.mul_one])
  have HONE := Lib.hid (nums_one bs)
  have HMAX := Lib.hid (show 0 + bs.length ≤ maxLen by unfold maxLen; omega)
  have HBYT := Lib.hid (show (0 + bs.length) * 8 ≤ 140737488355328 by omega)
  clear hnews
  go_wp2_with (at_builtin; refine wpList_append_own _ rfl (.tmp 5) (.tmp 6) 25 rfl w.heap.size 3 i0 (.int .i64 0) 1 8 Try.underlying25 HI.out HZ0.out HZ1.out HZ2.out rfl (by decide) _ 0 [] rfl HOWN.out ⟨b, o, none⟩ bs.length d (nums bs) rfl HLEN.out HNEWS.out HONE.out HMAX.out HBYT.out (by simp) ?_; intro v' w1 hown1 hg1 _)
  go_ret
  simp only [Nat.zero_add, List.nil_append] at hown1
  obtain ⟨A, c, hv, hf⟩ := Fresh.of_own hown1 (Nat.le_refl _)
  refine ⟨A, c, by rw [← hv]; rfl, hf, ?_⟩
  exact (below1 w _).grown hg1 (by simp) (fun k hk => Nat.le_of_eq (Option.some.inj (show some w.heap.size = some k from hk)))

/-- The times, each so many times as great. -/
def times (xs : List Int) (k : Int) : List Int := xs.map (· * k)
theorem times_len (xs : List Int) (k : Int) : (times xs k).length = xs.length := by simp [times]
def slowOk (xs : List Int) (s k : Int) : Bool := isParty xs s && (within k 1 1000 && isParty (times xs k) s)
def slowXs (xs : List Int) (s k : Int) : List Int := if slowOk xs s k then times xs k else []
def slowSeats (xs : List Int) (s k : Int) : Int := if slowOk xs s k then s else 0
theorem slow_of {xs : List Int} {s k : Int} {x : Bool} (h1 : isParty xs s = true) (h2 : within k 1 1000 = true) (h3 : isParty (times xs k) s = x) : slowOk xs s k = x := by simp [slowOk, h1, h2, h3]
theorem slowXs_le (xs : List Int) (s k : Int) : (slowXs xs s k).length ≤ xs.length := by
  rw [slowXs]
  split
  · rw [times_len]; exact Nat.le_refl _
  · simp
theorem slow_no {xs : List Int} {s k : Int} (h : slowOk xs s k = false) : slowXs xs s k = [] ∧ slowSeats xs s k = 0 := by simp [slowXs, slowSeats, h]
theorem slow_yes {xs : List Int} {s k : Int} (h : slowOk xs s k = true) : slowXs xs s k = times xs k ∧ slowSeats xs s k = s := by simp [slowXs, slowSeats, h]
theorem party_all {xs : List Int} {s : Int} (h : isParty xs s = true) : ∀ x ∈ xs, 1 ≤ x ∧ x ≤ 1000 := by
  simp only [isParty, Bool.and_eq_true] at h
  exact (allIn_iff _ _ _).1 h.2.1
theorem times_next {xs : List Int} {k : Int} {j : Nat} (hj : j < xs.length) : nums (times (xs.take j) k) ++ [.int .i64 (xs[j] * k)] = nums (times (xs.take (j + 1)) k) := by
  rw [List.take_succ_eq_append_getElem hj]
  simp only [nums, times, List.map_append, List.map_cons, List.map_nil]
theorem slow_iff {xs : List Int} {s k : Int} (hp : isParty xs s = true) (hk : 1 ≤ k) : slowOk xs s k = decide (mostOf xs ≤ 1000 / k) := by
  have hall := party_all hp
  have hne : xs ≠ [] := by
    rintro rfl
    simp [isParty, within] at hp
  have hd : ∀ x : Int, x ≤ 1000 / k ↔ x * k ≤ 1000 := fun x => Int.le_ediv_iff_mul_le (by omega)
  rw [Bool.eq_iff_iff, decide_eq_true_eq, mostOf_le hne]
  simp only [slowOk, hp, Bool.true_and, Bool.and_eq_true]
  constructor
  · rintro ⟨-, h⟩ x hx
    have := party_all h (x * k) (List.mem_map_of_mem hx)
    exact (hd x).2 this.2
  · intro h
    have hk2 : k ≤ 1000 := by
      obtain ⟨y, hy⟩ := List.exists_mem_of_ne_nil _ hne
      have h1 := (hd y).1 (h y hy)
      have h2 := (hall y hy).1
      have h3 : 1 * k ≤ y * k := Int.mul_le_mul_of_nonneg_right h2 (by omega)
      omega
    refine ⟨within_yes hk hk2, ?_⟩
    simp only [isParty, Bool.and_eq_true] at hp ⊢
    refine ⟨by rw [times_len]; exact hp.1, (allIn_iff _ _ _).2 fun y hy => ?_, hp.2.2⟩
    simp only [times, List.mem_map] at hy
    obtain ⟨x, hx, rfl⟩ := hy
    have h1 := (hd x).1 (h x hx)
    have h2 := (hall x hx).1
    have h3 : 1 * 1 ≤ x * k := Int.mul_le_mul h2 hk (by omega) (by omega)
    exact ⟨by omega, h1⟩

end Go.Proofs.Ytjkiclhihhhpmaa

namespace Go.Proofs.Ytjkiclhihhhpmaa
open Go.RowKit

/-- What a call hands back that makes places. -/
def PlacesRes (xs : List Int) (s : Int) (w : World) (e : Ending) (w' : World) : Prop :=
  ∃ (A : Option Addr) (c : Nat), e = .returned (.agg #[.slice A xs.length c, .int .i64 s]) ∧ Fresh w' w.heap.size w'.heap.size 3 A (nums xs) ∧ Below w.heap.size w w'
/-- Where a person is: 0 where there is none. -/
def gd (xs : List Int) (i : Nat) : Int := xs.getD i 0
/-- Whereabouts: where six people are, and the boat. -/
def whOf (xs : List Int) (s : Int) : Array Value := #[.int .i64 (gd xs 0), .int .i64 (gd xs 1), .int .i64 (gd xs 2), .int .i64 (gd xs 3), .int .i64 (gd xs 4), .int .i64 (gd xs 5), .int .i64 s]
theorem wh_at (xs : List Int) (s : Int) {i : Nat} (h : i < 6) : (whOf xs s)[i]? = some (.int .i64 (gd xs i)) := by
  match i, h with
  | 0, _ => rfl
  | 1, _ => rfl
  | 2, _ => rfl
  | 3, _ => rfl
  | 4, _ => rfl
  | 5, _ => rfl
def repl (n : Nat) (p : Int) : List Int := List.replicate n p
theorem repl_len (n : Nat) (p : Int) : (repl n p).length = n := by simp [repl]
theorem repl_next (n : Nat) (p : Int) : nums (repl n p) ++ [.int .i64 p] = nums (repl (n + 1) p) := by simp [nums, repl, List.replicate_succ']
theorem repl_zero (n : Nat) (i : Nat) : (repl n 0).getD i 0 = 0 := by
  simp only [repl, List.getD_eq_getElem?_getD, List.getElem?_replicate]
  split <;> rfl
theorem wh_repl_zero (n : Nat) : whOf (repl n 0) 0 = whOf [] 0 := by
  simp only [whOf, gd, repl_zero]
  rfl
theorem wh_next (p : Int) (n : Nat) (h : n < 6) : (whOf (repl n p) p).setIfInBounds n (.int .i64 p) = whOf (repl (n + 1) p) p := by
  match n, h with
  | 0, _ => rfl
  | 1, _ => rfl
  | 2, _ => rfl
  | 3, _ => rfl
  | 4, _ => rfl
  | 5, _ => rfl
theorem size_wh : (Try.prog.info? 109).map (·.size) = some 7 := by kernel_rfl
theorem wh_one (xs : List Int) (s : Int) : (whOf xs s).all (·.oneCell') = true := by simp [whOf, Value.oneCell']
def cellLen (w : World) (g : Nat) : Nat := match w.cell? ⟨g, 0, none⟩ with | some (.slice _ n _) => n | _ => 0
theorem cellLen_of {w : World} {g n c : Nat} {t : TypeId} {D : Option Addr} {v : Value} (h : Whole w g t #[.slice D n c, v]) : cellLen w g = n := by
  have h0 : w.cell? ⟨g, 0, none⟩ = some (.slice D n c) := h.cell 0
  simp [cellLen, h0]

set_option maxHeartbeats 1600000 in
set_option maxRecDepth 100000 in
theorem isAll_any (k : Nat) (b d p : Int) (w : World) (hk : k ≤ 3) :
    Calls Try.prog 84 #[.agg #[.int .i64 k, .int .i64 b, .int .i64 d], .int .i64 p] w (PlacesRes (repl (2 * k) p) p w) := by
  obtain ⟨i0, hi, hz0, hz1, hz2⟩ := info_parts info_int
  have HI := Lib.hid hi
  have HZ0 := Lib.hid hz0
  have HZ1 := Lib.hid hz1
  have HZ2 := Lib.hid hz2
  clear hi hz0 hz1 hz2
  have h0 := ((Whole.fresh w 59 #[.int .i64 k, .int .i64 b, .int .i64 d]).alloc (.cells #[.slice none 0 0, .int .i64 0] 66)).alloc (.cells #[.slice none 0 0, .int .i64 p] 66)
  have h1 := (Whole.fresh (w.alloc (.cells #[.int .i64 k, .int .i64 b, .int .i64 d] 59)) 66 #[.slice none 0 0, .int .i64 0]).alloc (.cells #[.slice none 0 0, .int .i64 p] 66)
  have h2 := Whole.fresh ((w.alloc (.cells #[.int .i64 k, .int .i64 b, .int .i64 d] 59)).alloc (.cells #[.slice none 0 0, .int .i64 0] 66)) 66 #[.slice none 0 0, .int .i64 p]
  have hb0 := below3 w (.cells #[.int .i64 k, .int .i64 b, .int .i64 d] 59) (.cells #[.slice none 0 0, .int .i64 0] 66) (.cells #[.slice none 0 0, .int .i64 p] 66)
  simp only [World.size_alloc] at h0 h1 h2
  go_enter Try.func84, Try.ntmps84
  go_wp2
  go_loopw [8] (fun _ wr => ∃ (j : Nat) (D : Option Addr) (q : Nat), j ≤ 2 * k ∧ wr.ownsRow (w.heap.size + 1 + 1 + 1) 3 1 (.slice D j q) j (nums (repl j p)) ∧ Whole wr w.heap.size 59 #[.int .i64 k, .int .i64 b, .int .i64 d] ∧ Whole wr (w.heap.size + 1) 66 #[.slice none 0 0, .int .i64 0] ∧ Whole wr (w.heap.size + 1 + 1) 66 #[.slice D j q, .int .i64 p] ∧ Below w.heap.size w wr) (fun _ wr => 2 * k - cellLen wr (w.heap.size + 1 + 1))
  case atStart => exact ⟨0, none, 0, Nat.zero_le _, World.ownsRow_nil _ _ _ _, h0, h1, h2, hb0⟩
  case round =>
    clear h0 h1 h2 hb0
    obtain ⟨j, D, q, hj, hown, h0, h1, h2, hb⟩ := hrel
    obtain ⟨c0, c1, c2⟩ := h0.cells3
    obtain ⟨a0, a1, e0, e1⟩ := h2.two
    have hl2 := h2.lt
    have HCL := Lib.hid (cellLen_of h2)
    by_cases hlt : j < 2 * k
    · have hd : decide ((j : Int) < 2 * (k : Int)) = true := by simp; omega
      have hOW := Lib.hid (hown.alloc (.cells #[.int .i64 p] 3))
      have h0' := Lib.hid (h0.alloc (.cells #[.int .i64 p] 3))
      have h1' := Lib.hid (h1.alloc (.cells #[.int .i64 p] 3))
      have h2' := Lib.hid (h2.alloc (.cells #[.int .i64 p] 3))
      have hb' := Lib.hid (hb.alloc hb.size (.cells #[.int .i64 p] 3))
      have hbase : w.heap.size + 1 + 1 + 1 ≤ (wr.alloc (.cells #[.int .i64 p] 3)).heap.size := by simp; omega
      have HBASE := Lib.hid hbase
      have HMAX := Lib.hid (show j + 1 ≤ maxLen by unfold maxLen; omega)
      have HBYT := Lib.hid (show (j + 1) * 8 ≤ 140737488355328 by omega)
      clear hown h0 h1 h2 hb hbase
      go_wp2_with (at_builtin; refine wpList_append_own _ rfl (.tmp 16) (.tmp 18) 25 rfl (w.heap.size + 1 + 1 + 1) 3 i0 (.int .i64 0) 1 8 Try.underlying25 HI.out HZ0.out HZ1.out HZ2.out rfl (by decide) (.slice D j q) j (nums (repl j p)) rfl hOW.out ⟨wr.heap.size, 0, none⟩ 1 1 [.int .i64 p] rfl rfl (cell_one_new _ _ _) (by simp [Value.oneCell']) HMAX.out HBYT.out HBASE.out ?_; intro v' w1 hown1 hg1 _; obtain ⟨D', q', hv', -⟩ := Fresh.of_own hown1 (Nat.le_refl _); rw [hv'] at hown1 ⊢; clear hv'; have g2 : Whole w1 (w.heap.size + 1 + 1) 66 #[.slice D j q, .int .i64 p] := (hg1.block _ h2'.out.lt (fun e => by have := (hOW.out.lt _ e.symm).1; omega)).trans h2'.out; have g1 : Whole w1 (w.heap.size + 1) 66 #[.slice none 0 0, .int .i64 0] := (hg1.block _ h1'.out.lt (fun e => by have := (hOW.out.lt _ e.symm).1; omega)).trans h1'.out; have g0 : Whole w1 w.heap.size 59 #[.int .i64 k, .int .i64 b, .int .i64 d] := (hg1.block _ h0'.out.lt (fun e => by have := (hOW.out.lt _ e.symm).1; omega)).trans h0'.out; obtain ⟨b0, b1, f0, f1⟩ := g2.two)
      have hbw : Below w.heap.size w w1 := hb'.out.grown hg1 (by have := hb'.out.size; omega) (fun kk e => by have := (hOW.out.lt _ e).1; omega)
      rw [repl_next] at hown1
      have hown2 := ownsRow_setCell_below hown1 (a := ⟨w.heap.size + 1 + 1, 0, none⟩) (by show w.heap.size + 1 + 1 < _; omega) (.slice D' (j + 1) q')
      have hset := g2.set_ 0 (.slice D' (j + 1) q')
      have HC2 := Lib.hid (cellLen_of hset)
      go_roundw
      case rel => exact ⟨j + 1, D', q', by omega, hown2, g0.off (by omega), g1.off (by omega), hset, below_set hbw (by omega)⟩
      case measure => rw [HC2.out, HCL.out]; omega
    · obtain rfl : j = 2 * k := by omega
      have hd : decide (((2 * k : Nat) : Int) < 2 * (k : Int)) = false := by simp
      obtain ⟨r0, r1, f0, f1⟩ := h1.two
      obtain ⟨D', q', hv', hf⟩ := Fresh.of_own hown (Nat.le_refl _)
      simp only [Value.slice.injEq, true_and] at hv'
      obtain ⟨rfl, rfl⟩ := hv'
      have HF := Lib.hid (((hf.set_out (b := w.heap.size + 1) (o := 0) (u := .slice D (2 * k) q) (.inl (by omega))).set_out (b := w.heap.size + 1) (o := 1) (u := .int .i64 p) (.inl (by omega))).more (lo' := w.heap.size) (hi' := wr.heap.size) (by omega) (Nat.le_refl _))
      clear hf hown
      go_wp2
      refine bodyPost_ret (v := .agg #[.slice D (2 * k) q, .int .i64 p]) (by simp [results, Try.results84, go_sem, r0, r1]) rfl ⟨D, q, by rw [repl_len], ?_, ?_⟩
      · have h := HF.out
        simpa [World.setCell] using h
      · exact below_set (below_set hb (by omega)) (by omega)

/-- First and last places: none where there are no isles. -/
def firstAt (a b d : Int) : List Int := if isIsl a b d then repl (2 * a.toNat) 0 else []
def lastAt (a b d : Int) : List Int := if isIsl a b d then repl (2 * a.toNat) (d + 1) else []
def lastBoat (a b d : Int) : Int := if isIsl a b d then d + 1 else 0
theorem firstAt_le (a b d : Int) : (firstAt a b d).length ≤ 1048576 := by
  rw [firstAt]; split
  · rename_i h; have := isIsl_iff.1 h; rw [repl_len]; omega
  · simp
theorem lastAt_le (a b d : Int) : (lastAt a b d).length ≤ 1048576 := by
  rw [lastAt]; split
  · rename_i h; have := isIsl_iff.1 h; rw [repl_len]; omega
  · simp
set_option maxHeartbeats 1600000 in
set_option maxRecDepth 100000 in
theorem specFirstPlaces_any (a b d : Int) (w : World) :
    Calls Try.prog 47 #[.agg #[.int .i64 a, .int .i64 b, .int .i64 d]] w (PartyPost (firstAt a b d) 0 (isIsl a b d) w) := by
  unfold firstAt
  cases hp : isIsl a b d
  · have h0 := (Whole.fresh w 59 #[.int .i64 a, .int .i64 b, .int .i64 d]).alloc (.cells #[.slice none 0 0, .int .i64 0] 66)
    have h1 := Whole.fresh (w.alloc (.cells #[.int .i64 a, .int .i64 b, .int .i64 d] 59)) 66 #[.slice none 0 0, .int .i64 0]
    rw [World.size_alloc] at h1
    have HP := Lib.hid hp
    clear hp
    go_enter Try.func47, Try.ntmps47
    go_wp2_with fail
    refine (isGood_any a b d _).mono ?_
    rintro e w1 ⟨rfl, hb⟩
    rw [HP.out]
    have ht := below_then (below2 w _ _) hb (by simp; omega)
    have hr := h1.below hb
    have hlr := hr.lt
    obtain ⟨r0, r1, f0, f1⟩ := hr.two
    clear h0 h1 hb
    go_wp2
    refine bodyPost_ret (v := .tuple #[.agg #[.slice none 0 0, .int .i64 0], .bool false]) (by simp [results, Try.results47, go_sem, r0, r1]) rfl ⟨none, 0, rfl, .inl rfl, ?_⟩
    exact below_set (below_set ht (by omega)) (by omega)
  · have hiff := isIsl_iff.1 hp
    obtain ⟨k, rfl⟩ := Int.eq_ofNat_of_zero_le (show 0 ≤ a by omega)
    have hk : k ≤ 3 := by omega
    simp only [if_true, Int.toNat_natCast]
    have h0 := (Whole.fresh w 59 #[.int .i64 k, .int .i64 b, .int .i64 d]).alloc (.cells #[.slice none 0 0, .int .i64 0] 66)
    have h1 := Whole.fresh (w.alloc (.cells #[.int .i64 k, .int .i64 b, .int .i64 d] 59)) 66 #[.slice none 0 0, .int .i64 0]
    rw [World.size_alloc] at h1
    have HP := Lib.hid hp
    clear hp
    go_enter Try.func47, Try.ntmps47
    go_wp2_with fail
    refine (isGood_any k b d _).mono ?_
    rintro e w1 ⟨rfl, hb⟩
    rw [HP.out]
    have ht := below_then (below2 w _ _) hb (by simp; omega)
    obtain ⟨c0, c1, c2⟩ := (h0.below hb).cells3
    have hr := h1.below hb
    clear h0 h1 hb
    go_wp2_with fail
    refine (isAll_any k b d 0 _ hk).mono ?_
    rintro e w2 ⟨A2, q2, rfl, hf, hb⟩
    have hlo : w.heap.size + 1 < w1.heap.size := hr.lt
    replace ht := below_then ht hb ht.size
    replace hr := hr.below hb
    obtain ⟨r0, r1, f0, f1⟩ := hr.two
    have HF := Lib.hid (((hf.set_out (b := w.heap.size + 1) (o := 0) (u := .slice A2 (repl (2 * k) 0).length q2) (.inl (by omega))).set_out (b := w.heap.size + 1) (o := 1) (u := .int .i64 0) (.inl (by omega))).more (lo' := w.heap.size) (hi' := w2.heap.size) (by omega) (Nat.le_refl _))
    clear hf
    go_wp2
    refine bodyPost_ret (v := .tuple #[.agg #[.slice A2 (repl (2 * k) 0).length q2, .int .i64 0], .bool true]) (by simp [results, Try.results47, go_sem, r0, r1]) rfl ⟨A2, q2, rfl, ?_, ?_⟩
    · have h := HF.out
      simpa [World.setCell] using h
    · exact below_set (below_set ht (by omega)) (by omega)

set_option maxHeartbeats 1600000 in
set_option maxRecDepth 100000 in
theorem specLastPlaces_any (a b d : Int) (w : World) :
    Calls Try.prog 51 #[.agg #[.int .i64 a, .int .i64 b, .int .i64 d]] w (PartyPost (lastAt a b d) (lastBoat a b d) (isIsl a b d) w) := by
  unfold lastAt lastBoat
  cases hp : isIsl a b d
  · have h0 := (Whole.fresh w 59 #[.int .i64 a, .int .i64 b, .int .i64 d]).alloc (.cells #[.slice none 0 0, .int .i64 0] 66)
    have h1 := Whole.fresh (w.alloc (.cells #[.int .i64 a, .int .i64 b, .int .i64 d] 59)) 66 #[.slice none 0 0, .int .i64 0]
    rw [World.size_alloc] at h1
    have HP := Lib.hid hp
    clear hp
    go_enter Try.func51, Try.ntmps51
    go_wp2_with fail
    refine (isGood_any a b d _).mono ?_
    rintro e w1 ⟨rfl, hb⟩
    rw [HP.out]
    have ht := below_then (below2 w _ _) hb (by simp; omega)
    have hr := h1.below hb
    have hlr := hr.lt
    obtain ⟨r0, r1, f0, f1⟩ := hr.two
    clear h0 h1 hb
    go_wp2
    refine bodyPost_ret (v := .tuple #[.agg #[.slice none 0 0, .int .i64 0], .bool false]) (by simp [results, Try.results51, go_sem, r0, r1]) rfl ⟨none, 0, rfl, .inl rfl, ?_⟩
    exact below_set (below_set ht (by omega)) (by omega)
  · have hiff := isIsl_iff.1 hp
    obtain ⟨k, rfl⟩ := Int.eq_ofNat_of_zero_le (show 0 ≤ a by omega)
    have hk : k ≤ 3 := by omega
    simp only [if_true, Int.toNat_natCast]
    have h0 := (Whole.fresh w 59 #[.int .i64 k, .int .i64 b, .int .i64 d]).alloc (.cells #[.slice none 0 0, .int .i64 0] 66)
    have h1 := Whole.fresh (w.alloc (.cells #[.int .i64 k, .int .i64 b, .int .i64 d] 59)) 66 #[.slice none 0 0, .int .i64 0]
    rw [World.size_alloc] at h1
    have HP := Lib.hid hp
    clear hp
    go_enter Try.func51, Try.ntmps51
    go_wp2_with fail
    refine (isGood_any k b d _).mono ?_
    rintro e w1 ⟨rfl, hb⟩
    rw [HP.out]
    have ht := below_then (below2 w _ _) hb (by simp; omega)
    obtain ⟨c0, c1, c2⟩ := (h0.below hb).cells3
    have hr := h1.below hb
    clear h0 h1 hb
    go_wp2_with fail
    refine (isAll_any k b d (d + 1) _ hk).mono ?_
    rintro e w2 ⟨A2, q2, rfl, hf, hb⟩
    have hlo : w.heap.size + 1 < w1.heap.size := hr.lt
    replace ht := below_then ht hb ht.size
    replace hr := hr.below hb
    obtain ⟨r0, r1, f0, f1⟩ := hr.two
    have HF := Lib.hid (((hf.set_out (b := w.heap.size + 1) (o := 0) (u := .slice A2 (repl (2 * k) (d + 1)).length q2) (.inl (by omega))).set_out (b := w.heap.size + 1) (o := 1) (u := .int .i64 (d + 1)) (.inl (by omega))).more (lo' := w.heap.size) (hi' := w2.heap.size) (by omega) (Nat.le_refl _))
    clear hf
    go_wp2
    refine bodyPost_ret (v := .tuple #[.agg #[.slice A2 (repl (2 * k) (d + 1)).length q2, .int .i64 (d + 1)], .bool true]) (by simp [results, Try.results51, go_sem, r0, r1]) rfl ⟨A2, q2, rfl, ?_, ?_⟩
    · have h := HF.out
      simpa [World.setCell] using h
    · exact below_set (below_set ht (by omega)) (by omega)

theorem elem_six (W : World) : (sizeOf (Try.prog.elem 107)).run Try.prog W = .ok 1 W := by kernel_rfl
theorem len_six : Try.prog.arrayLen 107 = 6 := by kernel_rfl
theorem arr_six : Try.prog.underlying 107 = some (.array (Try.prog.arrayLen 107) (Try.prog.elem 107)) := by kernel_rfl
theorem slice_six (W : World) (g n : Nat) (h : n ≤ 6) : (Instr.sliceAt 107 (.pointer (some ⟨g, 0, none⟩)) none (some (.int .i64 (n : Int))) none).run Try.prog W = .ok (.slice (some ⟨g, 0, none⟩) n 6) W := by
  rw [run_sliceAt_array_h W 107 _ arr_six .i64 (n : Int) (by omega) (by rw [len_six]; omega), elem_six]
  simp [slicedAt, len_six, Result.andThen, Addr.add]

set_option maxHeartbeats 800000 in
set_option maxRecDepth 100000 in
theorem places_any (xs : List Int) (s : Int) (n : Nat) (w : World) (hy : xs.length = n) (hn : n ≤ 6) :
    Calls Try.prog 85 #[.agg (whOf xs s), .int .i64 n] w (PlacesRes xs s w) := by
  subst hy
  have hp := (Whole.fresh w 109 (whOf xs s)).alloc (.cells #[.slice none 0 0, .int .i64 0] 66)
  have hr := Whole.fresh (w.alloc (.cells (whOf xs s) 109)) 66 #[.slice none 0 0, .int .i64 0]
  rw [World.size_alloc] at hr
  have hb2 := below2 w (.cells (whOf xs s) 109) (.cells #[.slice none 0 0, .int .i64 0] 66)
  have ht6 := (hp.cell 6).trans (show (whOf xs s)[6]? = some (.int .i64 s) from rfl)
  have hB : ∀ j u, (nums xs)[j]? = some u → ((w.alloc (.cells (whOf xs s) 109)).alloc (.cells #[.slice none 0 0, .int .i64 0] 66)).cell? ⟨w.heap.size, 0 + j, none⟩ = some u := fun j u hu => by
    have hj : j < xs.length := by have := (List.getElem?_eq_some_iff.1 hu).1; rwa [nums_len] at this
    rw [Nat.zero_add, hp.cell j, wh_at xs s (by omega), ← hu]
    simp [nums, hj, gd]
  have HB := Lib.hid hB
  clear hB
  have hsl := fun W : World => slice_six W w.heap.size xs.length hn
  go_enter Try.func85, Try.ntmps85
  go_wp2
  go_region_held3 (fun w' => w'.cell? ⟨w.heap.size, 6, none⟩ = some (.int .i64 s)) (go_keep)
    (first | (go_at_call 99; refine (cloneI_any w.heap.size 0 xs.length 6 xs _ (by exact HB.out) rfl (by omega)).mono ?_; rintro e w1 ⟨A, c, rfl, hf, hb⟩; have k6 := ((hp.drew.below hb).cell 6).trans (show (whOf xs s)[6]? = some (.int .i64 s) from rfl); obtain ⟨r0, r1, f0, f1⟩ := (hr.drew.below hb).two))
  have hlw : w.heap.size + 1 + 1 ≤ w1.heap.size := by have := hb.size; simpa using this
  have HF := Lib.hid ((hf.set_out (b := w.heap.size + 1) (o := 0) (u := .slice A xs.length c) (.inl (by simp))).set_out (b := w.heap.size + 1) (o := 1) (u := .int .i64 s) (.inl (by simp)))
  have HBW := Lib.hid (below_then hb2.drew hb (by simp; omega))
  clear hf hb
  go_wp2
  refine bodyPost_ret (v := .agg #[.slice A xs.length c, .int .i64 s]) (by simp [results, Try.results85, go_sem, r0, r1]) rfl ⟨A, c, rfl, ?_, ?_⟩
  · have h := HF.out.more (lo' := w.heap.size) (hi' := w1.heap.size) (by simp; omega) (Nat.le_refl _)
    simpa [World.setCell] using h
  · exact below_set (below_set HBW.out (by omega)) (by omega)

set_option maxHeartbeats 400000 in
theorem otherBank_any (k : Nat) (b d : Int) (w : World) (hk : k ≤ 3) (h0 : 0 ≤ d) (h2 : d ≤ 2) :
    Calls Try.prog 87 #[.agg #[.int .i64 k, .int .i64 b, .int .i64 d]] w fun e w' => e = .returned (.int .i64 (d + 1)) ∧ Below w.heap.size w w' := by
  go_enter Try.func87, Try.ntmps87
  go_wp2
  go_ret
  exact ⟨rfl, below1 w _⟩

theorem wh_cells {w : World} {g : Nat} {ty : TypeId} {xs : List Int} {s : Int} (h : Whole w g ty (whOf xs s)) :
    w.cell? ⟨g, 0, none⟩ = some (.int .i64 (gd xs 0)) ∧ w.cell? ⟨g, 1, none⟩ = some (.int .i64 (gd xs 1)) ∧ w.cell? ⟨g, 2, none⟩ = some (.int .i64 (gd xs 2)) ∧ w.cell? ⟨g, 3, none⟩ = some (.int .i64 (gd xs 3)) ∧
    w.cell? ⟨g, 4, none⟩ = some (.int .i64 (gd xs 4)) ∧ w.cell? ⟨g, 5, none⟩ = some (.int .i64 (gd xs 5)) ∧ w.cell? ⟨g, 6, none⟩ = some (.int .i64 s) :=
  ⟨h.cell 0, h.cell 1, h.cell 2, h.cell 3, h.cell 4, h.cell 5, h.cell 6⟩

set_option maxHeartbeats 1600000 in
theorem allAt_any (k : Nat) (b d p : Int) (w : World) (hk : k ≤ 3) :
    Calls Try.prog 86 #[.agg #[.int .i64 k, .int .i64 b, .int .i64 d], .int .i64 p] w fun e w' => e = .returned (.agg (whOf (repl (2 * k) p) p)) ∧ Below w.heap.size w w' := by
  have h0 := ((Whole.fresh w 59 #[.int .i64 k, .int .i64 b, .int .i64 d]).alloc (.cells (whOf [] 0) 109)).alloc (.cells (whOf (repl 0 p) p) 109)
  have h1 := (Whole.fresh (w.alloc (.cells #[.int .i64 k, .int .i64 b, .int .i64 d] 59)) 109 (whOf [] 0)).alloc (.cells (whOf (repl 0 p) p) 109)
  have h2 := Whole.fresh ((w.alloc (.cells #[.int .i64 k, .int .i64 b, .int .i64 d] 59)).alloc (.cells (whOf [] 0) 109)) 109 (whOf (repl 0 p) p)
  have hb0 := below3 w (.cells #[.int .i64 k, .int .i64 b, .int .i64 d] 59) (.cells (whOf [] 0) 109) (.cells (whOf (repl 0 p) p) 109)
  simp only [World.size_alloc] at h0 h1 h2
  obtain ⟨c0, c1, c2⟩ := h0.cells3
  go_enter Try.func86, Try.ntmps86
  go_wp2
  go_loopw [12] (fun i wr => ∃ j : Nat, j ≤ 2 * k ∧ i = .int .i64 j ∧ Whole wr (w.heap.size + 1) 109 (whOf [] 0) ∧ Whole wr (w.heap.size + 1 + 1) 109 (whOf (repl j p) p) ∧ Below w.heap.size w wr) (fun i _ => 2 * k - (intOf i).toNat)
  case atStart => exact ⟨0, Nat.zero_le _, rfl, h1, h2, hb0⟩
  case round =>
    clear h0 h1 h2 hb0 c0 c1 c2
    obtain ⟨j, hj, rfl, h1, h2, hb⟩ := hrel
    by_cases hlt : j < 2 * k
    · have hd : decide ((j : Int) < 2 * (k : Int)) = true := by simp; omega
      have hj6 : j < 6 := by omega
      have hji : (j : Int) < 6 := by omega
      have hcell := (h2.cell j).trans (wh_at (repl j p) p hj6)
      have hfr := h2.open_ j
      have hset := h2.set_ j (.int .i64 p)
      rw [wh_next p j hj6] at hset
      go_wp2
      go_roundw
      case rel => exact ⟨j + 1, by omega, by go_num, h1.off (by omega), hset, below_set hb (by omega)⟩
      case measure => simp [intOf]; omega
    · obtain rfl : j = 2 * k := by omega
      have hd : decide (((2 * k : Nat) : Int) < 2 * (k : Int)) = false := by simp
      go_wp2_with (first | (refine wpList_load_row rfl 109 (.tmp 5) rfl (w.heap.size + 1 + 1) rfl 109 (whOf (repl (2 * k) p) p) (0, 0) _ h2 Try.underlying109 rfl size_wh ?_) | (refine wpList_store_whole rfl 109 (.tmp 4) (.tmp 20) rfl (w.heap.size + 1) (whOf (repl (2 * k) p) p) rfl rfl 109 (whOf [] 0) h1 size_wh rfl (wh_one _ _) ?_; intro w2 hw2 ho2))
      have hb2 := ho2.below hb (by omega)
      obtain ⟨r0, r1, r2, r3, r4, r5, r6⟩ := wh_cells hw2
      refine bodyPost_ret (v := .agg (whOf (repl (2 * k) p) p)) (by simp [results, Try.results86, go_sem, r0, r1, r2, r3, r4, r5, r6, whOf]) rfl ⟨rfl, hb2⟩

set_option maxHeartbeats 1600000 in
set_option maxRecDepth 100000 in
theorem implFirstPlaces_any (a b d : Int) (w : World) :
    Calls Try.prog 48 #[.agg #[.int .i64 a, .int .i64 b, .int .i64 d]] w (PartyPost (firstAt a b d) 0 (isIsl a b d) w) := by
  unfold firstAt
  cases hp : isIsl a b d
  · have h0 := (Whole.fresh w 59 #[.int .i64 a, .int .i64 b, .int .i64 d]).alloc (.cells #[.slice none 0 0, .int .i64 0] 66)
    have h1 := Whole.fresh (w.alloc (.cells #[.int .i64 a, .int .i64 b, .int .i64 d] 59)) 66 #[.slice none 0 0, .int .i64 0]
    rw [World.size_alloc] at h1
    have HP := Lib.hid hp
    clear hp
    go_enter Try.func48, Try.ntmps48
    go_wp2_with fail
    refine (isIsles_any a b d _).mono ?_
    rintro e w1 ⟨rfl, hb⟩
    rw [HP.out]
    have ht := below_then (below2 w _ _) hb (by simp; omega)
    have hr := h1.below hb
    have hlr := hr.lt
    obtain ⟨r0, r1, f0, f1⟩ := hr.two
    clear h0 h1 hb
    go_wp2
    refine bodyPost_ret (v := .tuple #[.agg #[.slice none 0 0, .int .i64 0], .bool false]) (by simp [results, Try.results48, go_sem, r0, r1]) rfl ⟨none, 0, rfl, .inl rfl, ?_⟩
    exact below_set (below_set ht (by omega)) (by omega)
  · have hiff := isIsl_iff.1 hp
    obtain ⟨k, rfl⟩ := Int.eq_ofNat_of_zero_le (show 0 ≤ a by omega)
    have hk : k ≤ 3 := by omega
    simp only [if_true, Int.toNat_natCast]
    have h0 := (Whole.fresh w 59 #[.int .i64 k, .int .i64 b, .int .i64 d]).alloc (.cells #[.slice none 0 0, .int .i64 0] 66)
    have h1 := Whole.fresh (w.alloc (.cells #[.int .i64 k, .int .i64 b, .int .i64 d] 59)) 66 #[.slice none 0 0, .int .i64 0]
    rw [World.size_alloc] at h1
    have HP := Lib.hid hp
    clear hp
    go_enter Try.func48, Try.ntmps48
    go_wp2_with fail
    refine (isIsles_any k b d _).mono ?_
    rintro e w1 ⟨rfl, hb⟩
    rw [HP.out]
    have ht := below_then (below2 w _ _) hb (by simp; omega)
    obtain ⟨c0, c1, c2⟩ := (h0.below hb).cells3
    have hr := h1.below hb
    clear h0 h1 hb
    go_wp2_with fail
    have hpl := places_any (repl (2 * k) 0) 0 (2 * k) w1 (repl_len _ _) (by omega)
    rw [wh_repl_zero, show ((2 * k : Nat) : Int) = 2 * (k : Int) by omega] at hpl
    refine hpl.mono ?_
    clear hpl
    rintro e w2 ⟨A2, q2, rfl, hf, hb⟩
    have hlo : w.heap.size + 1 < w1.heap.size := hr.lt
    replace ht := below_then ht hb ht.size
    replace hr := hr.below hb
    obtain ⟨r0, r1, f0, f1⟩ := hr.two
    have HF := Lib.hid (((hf.set_out (b := w.heap.size + 1) (o := 0) (u := .slice A2 (repl (2 * k) 0).length q2) (.inl (by omega))).set_out (b := w.heap.size + 1) (o := 1) (u := .int .i64 0) (.inl (by omega))).more (lo' := w.heap.size) (hi' := w2.heap.size) (by omega) (Nat.le_refl _))
    clear hf
    go_wp2
    refine bodyPost_ret (v := .tuple #[.agg #[.slice A2 (repl (2 * k) 0).length q2, .int .i64 0], .bool true]) (by simp [results, Try.results48, go_sem, r0, r1]) rfl ⟨A2, q2, rfl, ?_, ?_⟩
    · have h := HF.out
      simpa [World.setCell] using h
    · exact below_set (below_set ht (by omega)) (by omega)

set_option maxHeartbeats 1600000 in
set_option maxRecDepth 100000 in
theorem implLastPlaces_any (a b d : Int) (w : World) :
    Calls Try.prog 52 #[.agg #[.int .i64 a, .int .i64 b, .int .i64 d]] w (PartyPost (lastAt a b d) (lastBoat a b d) (isIsl a b d) w) := by
  unfold lastAt lastBoat
  cases hp : isIsl a b d
  · have h0 := (Whole.fresh w 59 #[.int .i64 a, .int .i64 b, .int .i64 d]).alloc (.cells #[.slice none 0 0, .int .i64 0] 66)
    have h1 := Whole.fresh (w.alloc (.cells #[.int .i64 a, .int .i64 b, .int .i64 d] 59)) 66 #[.slice none 0 0, .int .i64 0]
    rw [World.size_alloc] at h1
    have HP := Lib.hid hp
    clear hp
    go_enter Try.func52, Try.ntmps52
    go_wp2_with fail
    refine (isIsles_any a b d _).mono ?_
    rintro e w1 ⟨rfl, hb⟩
    rw [HP.out]
    have ht := below_then (below2 w _ _) hb (by simp; omega)
    have hr := h1.below hb
    have hlr := hr.lt
    obtain ⟨r0, r1, f0, f1⟩ := hr.two
    clear h0 h1 hb
    go_wp2
    refine bodyPost_ret (v := .tuple #[.agg #[.slice none 0 0, .int .i64 0], .bool false]) (by simp [results, Try.results52, go_sem, r0, r1]) rfl ⟨none, 0, rfl, .inl rfl, ?_⟩
    exact below_set (below_set ht (by omega)) (by omega)
  · have hiff := isIsl_iff.1 hp
    obtain ⟨k, rfl⟩ := Int.eq_ofNat_of_zero_le (show 0 ≤ a by omega)
    have hk : k ≤ 3 := by omega
    simp only [if_true, Int.toNat_natCast]
    have h0 := (Whole.fresh w 59 #[.int .i64 k, .int .i64 b, .int .i64 d]).alloc (.cells #[.slice none 0 0, .int .i64 0] 66)
    have h1 := Whole.fresh (w.alloc (.cells #[.int .i64 k, .int .i64 b, .int .i64 d] 59)) 66 #[.slice none 0 0, .int .i64 0]
    rw [World.size_alloc] at h1
    have HP := Lib.hid hp
    clear hp
    go_enter Try.func52, Try.ntmps52
    go_wp2_with fail
    refine (isIsles_any k b d _).mono ?_
    rintro e w1 ⟨rfl, hb⟩
    rw [HP.out]
    have ht := below_then (below2 w _ _) hb (by simp; omega)
    have h0' := h0.below hb
    obtain ⟨c0, c1, c2⟩ := h0'.cells3
    have hr := h1.below hb
    clear h0 h1 hb
    have hpl := fun W : World => places_any (repl (2 * k) (d + 1)) (d + 1) (2 * k) W (repl_len _ _) (by omega)
    rw [show ((2 * k : Nat) : Int) = 2 * (k : Int) by omega] at hpl
    have HPL := Lib.hid hpl
    clear hpl
    have hwr : IntKind.i64.wrap (2 * (k : Int)) = 2 * (k : Int) := IntWalk.i64_in _ (by omega)
    go_wp2_with fail
    go_region_held3 (fun w' => w'.cell? ⟨w.heap.size, 0, none⟩ = some (.int .i64 k) ∧ w'.cell? ⟨w.heap.size, 1, none⟩ = some (.int .i64 b) ∧ w'.cell? ⟨w.heap.size, 2, none⟩ = some (.int .i64 d)) (go_keep)
      (first | (go_at_call 87; refine (otherBank_any k b d _ hk (by omega) (by omega)).mono ?_; rintro e w2 ⟨rfl, hb2⟩; obtain ⟨k0, k1, k2⟩ := (h0'.drew.below hb2).cells3) | (go_at_call 86; refine (allAt_any k b d (d + 1) _ hk).mono ?_; rintro e w3 ⟨rfl, hb3⟩; obtain ⟨l0, l1, l2⟩ := ((h0'.drew.below hb2).below hb3).cells3) | (go_at_call 85; refine (HPL.out _).mono ?_; rintro e w4 ⟨A2, q2, rfl, hf, hb4⟩; obtain ⟨m0, m1, m2⟩ := (((h0'.drew.below hb2).below hb3).below hb4).cells3; obtain ⟨r0, r1, f0, f1⟩ := (((hr.drew.below hb2).below hb3).below hb4).two))
    have hlo0 : w.heap.size + 1 < w1.heap.size := hr.lt
    have hlo2 : w1.heap.size ≤ w2.heap.size := hb2.size
    have hlo3 : w2.heap.size ≤ w3.heap.size := hb3.size
    have ht3 := below_then (below_then ht.drew hb2 ht.size) hb3 (Nat.le_trans ht.size hb2.size)
    replace ht := below_then ht3 hb4 ht3.size
    clear hb2 hb3 hb4 ht3
    have HF := Lib.hid (((hf.set_out (b := w.heap.size + 1) (o := 0) (u := .slice A2 (repl (2 * k) (d + 1)).length q2) (.inl (by omega))).set_out (b := w.heap.size + 1) (o := 1) (u := .int .i64 (d + 1)) (.inl (by omega))).more (lo' := w.heap.size) (hi' := w4.heap.size) (by omega) (Nat.le_refl _))
    clear hf
    go_wp2
    refine bodyPost_ret (v := .tuple #[.agg #[.slice A2 (repl (2 * k) (d + 1)).length q2, .int .i64 (d + 1)], .bool true]) (by simp [results, Try.results52, go_sem, r0, r1]) rfl ⟨A2, q2, rfl, ?_, ?_⟩
    · have h := HF.out
      simpa [World.setCell] using h
    · exact below_set (below_set ht (by omega)) (by omega)
end Go.Proofs.Ytjkiclhihhhpmaa

namespace Go.Proofs.Ytjkiclhihhhpmaa
open Go.RowKit

/-- Places of isles, told in plain words. -/
def isPl (a b d : Int) (xs : List Int) (s : Int) : Bool := isIsl a b d && (decide ((xs.length : Int) = 2 * a) && (allIn xs 0 (d + 1) && hasK xs s))
theorem isPl_isl {a b d : Int} {xs : List Int} {s : Int} (h : isIsl a b d = false) : isPl a b d xs s = false := by simp [isPl, h]
theorem isPl_len {a b d : Int} {xs : List Int} {s : Int} (h : ¬ (xs.length : Int) = 2 * a) : isPl a b d xs s = false := by simp [isPl, h]
theorem isPl_in {a b d : Int} {xs : List Int} {s : Int} (h : allIn xs 0 (d + 1) = false) : isPl a b d xs s = false := by simp [isPl, h]
theorem isPl_has {a b d : Int} {xs : List Int} {s : Int} (h : hasK xs s = false) : isPl a b d xs s = false := by simp [isPl, h]
theorem isPl_yes {a b d : Int} {xs : List Int} {s : Int} (h1 : isIsl a b d = true) (h2 : (xs.length : Int) = 2 * a) (h3 : allIn xs 0 (d + 1) = true) : isPl a b d xs s = hasK xs s := by simp [isPl, h1, h2, h3]
theorem has_any (xs : List Int) (s : Int) : xs.any (· == s) = hasK xs s := by
  rw [Bool.eq_iff_iff, hasK, List.contains_iff_mem, List.any_eq_true]
  constructor
  · rintro ⟨x, h1, h2⟩; have : x = s := by simpa using h2
    exact this ▸ h1
  · intro h; exact ⟨s, h, by simp⟩
theorem isPl_low {a b d : Int} {xs : List Int} {s : Int} (h0 : xs ≠ []) (h : leastOf xs < 0) : isPl a b d xs s = false := by
  refine isPl_in ?_
  cases h3 : allIn xs 0 (d + 1)
  · rfl
  · have := (le_leastOf h0 0).2 fun y hy => ((allIn_iff _ _ _).1 h3 y hy).1
    omega
theorem isPl_high {a b d : Int} {xs : List Int} {s : Int} (h0 : xs ≠ []) (h : d + 1 < mostOf xs) : isPl a b d xs s = false := by
  refine isPl_in ?_
  cases h3 : allIn xs 0 (d + 1)
  · rfl
  · have := (mostOf_le h0 (d + 1)).2 fun y hy => ((allIn_iff _ _ _).1 h3 y hy).2
    omega
theorem isPl_all {a b d : Int} {xs : List Int} {s : Int} (h0 : xs ≠ []) (h1 : isIsl a b d = true) (h2 : (xs.length : Int) = 2 * a) (h3 : hasK xs s = true) (h4 : 0 ≤ leastOf xs) (h5 : mostOf xs ≤ d + 1) : isPl a b d xs s = true := by
  have h6 : allIn xs 0 (d + 1) = true := (allIn_iff _ _ _).2 fun y hy => ⟨(le_leastOf h0 0).1 h4 y hy, (mostOf_le h0 _).1 h5 y hy⟩
  rw [isPl_yes h1 h2 h6, h3]
theorem isPl_parts {a b d : Int} {xs : List Int} {s : Int} (h : isPl a b d xs s = true) : isIsl a b d = true ∧ (xs.length : Int) = 2 * a ∧ allIn xs 0 (d + 1) = true ∧ hasK xs s = true := by
  simpa [isPl] using h

set_option maxHeartbeats 1600000 in
set_option maxRecDepth 100000 in
theorem isPlaces_any (a b d : Int) (A : Option Addr) (n c : Nat) (xs : List Int) (s : Int) (w : World) (hA : Holds w A (nums xs)) (hx : xs.length = n) (hn : n ≤ 1048576) :
    Calls Try.prog 82 #[.agg #[.int .i64 a, .int .i64 b, .int .i64 d], .agg #[.slice A n c, .int .i64 s]] w fun e w' => e = .returned (.bool (isPl a b d xs s)) ∧ Below w.heap.size w w' := by
  have HX := Lib.hid hx
  have hA2 := (hA.alloc (.cells #[.int .i64 a, .int .i64 b, .int .i64 d] 59)).alloc (.cells #[.slice A n c, .int .i64 s] 66)
  have hi := (Whole.fresh w 59 #[.int .i64 a, .int .i64 b, .int .i64 d]).alloc (.cells #[.slice A n c, .int .i64 s] 66)
  have hp := Whole.fresh (w.alloc (.cells #[.int .i64 a, .int .i64 b, .int .i64 d] 59)) 66 #[.slice A n c, .int .i64 s]
  rw [World.size_alloc] at hp
  have ht := below2 w (.cells #[.int .i64 a, .int .i64 b, .int .i64 d] 59) (.cells #[.slice A n c, .int .i64 s] 66)
  obtain ⟨c0, c1, c2⟩ := hi.cells3
  obtain ⟨p0, p1⟩ := hp.cells2
  cases h1 : isIsl a b d
  · have HP := Lib.hid (isPl_isl (xs := xs) (s := s) h1)
    have H1 := Lib.hid h1
    clear h1 hx
    go_enter Try.func82, Try.ntmps82
    go_wp2_with fail
    refine (isGood_any a b d _).mono ?_
    rintro e w1 ⟨rfl, hb⟩
    rw [H1.out]
    replace ht := below_then ht hb ht.size
    replace hA2 := hA2.below hb
    replace hi := hi.below hb
    replace hp := hp.below hb
    clear hb c0 c1 c2 p0 p1
    obtain ⟨c0, c1, c2⟩ := hi.cells3
    obtain ⟨p0, p1⟩ := hp.cells2
    go_wp2
    go_ret
    exact ⟨ret_of (by rw [HP.out]; rfl), ht⟩
  · have hiff := isIsl_iff.1 h1
    by_cases h2 : (xs.length : Int) = 2 * a
    · have hd2 : decide ((n : Int) = 2 * a) = true := by rw [← hx]; simpa using h2
      have hq2 : ((n : Int) == 2 * a) = true := by rw [← hx]; simpa using h2
      cases h3 : allIn xs 0 (d + 1)
      · have HP := Lib.hid (isPl_in (a := a) (b := b) (s := s) h3)
        have H1 := Lib.hid h1
        have H3 := Lib.hid h3
        clear h1 h3 h2 hx
        go_enter Try.func82, Try.ntmps82
        go_wp2_with fail
        refine (isGood_any a b d _).mono ?_
        rintro e w1 ⟨rfl, hb⟩
        rw [H1.out]
        replace ht := below_then ht hb ht.size
        replace hA2 := hA2.below hb
        replace hi := hi.below hb
        replace hp := hp.below hb
        clear hb c0 c1 c2 p0 p1
        obtain ⟨c0, c1, c2⟩ := hi.cells3
        obtain ⟨p0, p1⟩ := hp.cells2
        go_wp2_with fail
        refine (l1All_any A n c xs 0 (d + 1) _ (by exact hA2) HX.out (by omega)).mono ?_
        rintro e w2 ⟨rfl, rfl⟩
        rw [H3.out]
        go_wp2
        go_ret
        exact ⟨ret_of (by rw [HP.out]; rfl), ht⟩
      · have HP := Lib.hid (isPl_yes (s := s) h1 h2 h3)
        have H1 := Lib.hid h1
        have H3 := Lib.hid h3
        clear h1 h3 h2 hx
        go_enter Try.func82, Try.ntmps82
        go_wp2_with fail
        refine (isGood_any a b d _).mono ?_
        rintro e w1 ⟨rfl, hb⟩
        rw [H1.out]
        replace ht := below_then ht hb ht.size
        replace hA2 := hA2.below hb
        replace hi := hi.below hb
        replace hp := hp.below hb
        clear hb c0 c1 c2 p0 p1
        obtain ⟨c0, c1, c2⟩ := hi.cells3
        obtain ⟨p0, p1⟩ := hp.cells2
        go_wp2_with fail
        refine (l1All_any A n c xs 0 (d + 1) _ (by exact hA2) HX.out (by omega)).mono ?_
        rintro e w2 ⟨rfl, rfl⟩
        rw [H3.out]
        go_wp2_with fail
        refine (l1Has_any A n c xs s _ (by exact hA2) HX.out hn).mono ?_
        rintro e w3 ⟨rfl, rfl⟩
        go_wp2
        go_ret
        exact ⟨ret_of (by rw [HP.out]; rfl), ht⟩
    · have HP := Lib.hid (isPl_len (b := b) (d := d) (s := s) h2)
      have hd2 : decide ((n : Int) = 2 * a) = false := by rw [← hx]; simpa using h2
      have hq2 : ((n : Int) == 2 * a) = false := by rw [← hx]; simpa using h2
      have H1 := Lib.hid h1
      clear h1 h2 hx
      go_enter Try.func82, Try.ntmps82
      go_wp2_with fail
      refine (isGood_any a b d _).mono ?_
      rintro e w1 ⟨rfl, hb⟩
      rw [H1.out]
      replace ht := below_then ht hb ht.size
      replace hA2 := hA2.below hb
      replace hi := hi.below hb
      replace hp := hp.below hb
      clear hb c0 c1 c2 p0 p1
      obtain ⟨c0, c1, c2⟩ := hi.cells3
      obtain ⟨p0, p1⟩ := hp.cells2
      go_wp2
      go_ret
      exact ⟨ret_of (by rw [HP.out]; rfl), ht⟩

set_option maxHeartbeats 400000 in
theorem specArePlaces_any (a b d : Int) (A : Option Addr) (n c : Nat) (xs : List Int) (s : Int) (w : World) (hA : Holds w A (nums xs)) (hx : xs.length = n) (hn : n ≤ 1048576) :
    Calls Try.prog 43 #[.agg #[.int .i64 a, .int .i64 b, .int .i64 d], .agg #[.slice A n c, .int .i64 s]] w fun e w' => e = .returned (.bool (isPl a b d xs s)) ∧ Below w.heap.size w w' := by
  have HX := Lib.hid hx
  have hA2 := (hA.alloc (.cells #[.int .i64 a, .int .i64 b, .int .i64 d] 59)).alloc (.cells #[.slice A n c, .int .i64 s] 66)
  clear hx
  go_enter Try.func43, Try.ntmps43
  go_wp2_with fail
  refine (isPlaces_any a b d A n c xs s _ hA2 HX.out hn).mono ?_
  rintro e w1 ⟨rfl, hb⟩
  have ht := below_then (below2 w (.cells #[.int .i64 a, .int .i64 b, .int .i64 d] 59) (.cells #[.slice A n c, .int .i64 s] 66)) hb (by simp; omega)
  clear hb
  go_wp2
  go_ret
  exact ⟨rfl, ht⟩

def Box3 (g : Nat) (x y z : Value) (w : World) : Prop := w.cell? ⟨g, 0, none⟩ = some x ∧ w.cell? ⟨g, 1, none⟩ = some y ∧ w.cell? ⟨g, 2, none⟩ = some z
theorem otherBank_any' (a b d : Int) (w : World) (h0 : 0 ≤ d) (h2 : d ≤ 2) :
    Calls Try.prog 87 #[.agg #[.int .i64 a, .int .i64 b, .int .i64 d]] w fun e w' => e = .returned (.int .i64 (d + 1)) ∧ Below w.heap.size w w' := by
  go_enter Try.func87, Try.ntmps87
  go_wp2
  go_ret
  exact ⟨rfl, below1 w _⟩

/-- What whereaboutsOf hands back. -/
def WhPost (a b d : Int) (xs : List Int) (s : Int) (w : World) (e : Ending) (w' : World) : Prop :=
  ((isPl a b d xs s = true ∧ e = .returned (.tuple #[.agg (whOf xs s), .bool true])) ∨ (isPl a b d xs s = false ∧ e = .returned (.tuple #[.agg (whOf [] 0), .bool false]))) ∧ Below w.heap.size w w'
theorem size_int : (Try.prog.info? 3).map (·.size) = some 1 := by kernel_rfl
theorem splice_wh (xs : List Int) (s : Int) (h : xs.length ≤ 6) : splice (whOf [] s).toList 0 (nums xs) = (whOf xs s).toList := by
  match xs, h with
  | [], _ => rfl
  | [_], _ => rfl
  | [_, _], _ => rfl
  | [_, _, _], _ => rfl
  | [_, _, _, _], _ => rfl
  | [_, _, _, _, _], _ => rfl
  | [_, _, _, _, _, _], _ => rfl
  | _ :: _ :: _ :: _ :: _ :: _ :: _ :: _, h => simp at h
theorem set_wh {B g : Nat} {a w : World} {v0 v1 v2 v3 v4 v5 v6 : Value} (h : Below B a w) (hg : B ≤ g) :
    Below B a (((((((w.setCell ⟨g, 0, none⟩ v0).setCell ⟨g, 1, none⟩ v1).setCell ⟨g, 2, none⟩ v2).setCell ⟨g, 3, none⟩ v3).setCell ⟨g, 4, none⟩ v4).setCell ⟨g, 5, none⟩ v5).setCell ⟨g, 6, none⟩ v6) :=
  below_set (below_set (below_set (below_set (below_set (below_set (below_set h hg) hg) hg) hg) hg) hg) hg

set_option maxHeartbeats 6400000 in
set_option maxRecDepth 100000 in
set_option linter.unusedSimpArgs false in
theorem whereaboutsOf_any (a b d : Int) (A : Option Addr) (n c : Nat) (xs : List Int) (s : Int) (w : World) (hA : Holds w A (nums xs)) (hx : xs.length = n) (hn : n ≤ 1048576) :
    Calls Try.prog 83 #[.agg #[.int .i64 a, .int .i64 b, .int .i64 d], .agg #[.slice A n c, .int .i64 s]] w (WhPost a b d xs s w) := by
  have HX := Lib.hid hx
  have hA2 := ((hA.alloc (.cells #[.int .i64 a, .int .i64 b, .int .i64 d] 59)).alloc (.cells #[.slice A n c, .int .i64 s] 66)).alloc (.cells (whOf [] 0) 109)
  have hi := ((Whole.fresh w 59 #[.int .i64 a, .int .i64 b, .int .i64 d]).alloc (.cells #[.slice A n c, .int .i64 s] 66)).alloc (.cells (whOf [] 0) 109)
  have hp := (Whole.fresh (w.alloc (.cells #[.int .i64 a, .int .i64 b, .int .i64 d] 59)) 66 #[.slice A n c, .int .i64 s]).alloc (.cells (whOf [] 0) 109)
  have hz := Whole.fresh ((w.alloc (.cells #[.int .i64 a, .int .i64 b, .int .i64 d] 59)).alloc (.cells #[.slice A n c, .int .i64 s] 66)) 109 (whOf [] 0)
  simp only [World.size_alloc] at hp hz
  have ht := below3 w (.cells #[.int .i64 a, .int .i64 b, .int .i64 d] 59) (.cells #[.slice A n c, .int .i64 s] 66) (.cells (whOf [] 0) 109)
  obtain ⟨c0, c1, c2⟩ := hi.cells3
  obtain ⟨p0, p1⟩ := hp.cells2
  cases h1 : isIsl a b d
  · have HP := Lib.hid (isPl_isl (xs := xs) (s := s) h1)
    have H1 := Lib.hid h1
    clear h1 hx
    go_enter Try.func83, Try.ntmps83
    go_wp2_with fail
    refine (isIsles_any a b d _).mono ?_
    rintro e w1 ⟨rfl, hb⟩
    rw [H1.out]
    replace ht := below_then ht hb ht.size
    replace hA2 := hA2.below hb
    replace hi := hi.below hb
    replace hp := hp.below hb
    replace hz := hz.below hb
    clear hb c0 c1 c2 p0 p1
    obtain ⟨c0, c1, c2⟩ := hi.cells3
    obtain ⟨p0, p1⟩ := hp.cells2
    go_wp2_with (refine wpList_store_whole rfl 109 (.tmp 4) (.tmp 27) rfl (w.heap.size + 1 + 1) (whOf [] 0) rfl rfl 109 (whOf [] 0) hz size_wh rfl (wh_one _ _) ?_; intro w9 hw9 ho9)
    obtain ⟨r0, r1, r2, r3, r4, r5, r6⟩ := wh_cells hw9
    refine bodyPost_ret (v := .tuple #[.agg (whOf [] 0), .bool false]) (by simp [results, Try.results83, go_sem, r0, r1, r2, r3, r4, r5, r6, whOf]) rfl ⟨.inr ⟨HP.out, rfl⟩, ho9.below ht (by omega)⟩
  · have hiff := isIsl_iff.1 h1
    by_cases h2 : (xs.length : Int) = 2 * a
    · have hd2 : ((n : Int) != 2 * a) = false := by rw [← hx]; simpa using h2
      have h0 : 0 < n := by omega
      have hne : xs ≠ [] := by intro h; rw [h] at hx; simp at hx; omega
      have hn6 : n ≤ 6 := by omega
      cases h3 : hasK xs s
      · have HP := Lib.hid (isPl_has (a := a) (b := b) (d := d) h3)
        have H1 := Lib.hid h1
        have H3 := Lib.hid h3
        clear h1 h3 h2 hx
        go_enter Try.func83, Try.ntmps83
        go_wp2_with fail
        refine (isIsles_any a b d _).mono ?_
        rintro e w1 ⟨rfl, hb⟩
        rw [H1.out]
        replace ht := below_then ht hb ht.size
        replace hA2 := hA2.below hb
        replace hi := hi.below hb
        replace hp := hp.below hb
        replace hz := hz.below hb
        clear hb c0 c1 c2 p0 p1
        obtain ⟨c0, c1, c2⟩ := hi.cells3
        obtain ⟨p0, p1⟩ := hp.cells2
        go_wp2_with fail
        refine (containsI_any A n c xs s _ (by exact hA2) HX.out (by omega)).mono ?_
        rintro e w2 ⟨rfl, rfl⟩
        rw [has_any, H3.out]
        go_wp2_with (refine wpList_store_whole rfl 109 (.tmp 4) (.tmp 27) rfl (w.heap.size + 1 + 1) (whOf [] 0) rfl rfl 109 (whOf [] 0) hz size_wh rfl (wh_one _ _) ?_; intro w9 hw9 ho9)
        obtain ⟨r0, r1, r2, r3, r4, r5, r6⟩ := wh_cells hw9
        refine bodyPost_ret (v := .tuple #[.agg (whOf [] 0), .bool false]) (by simp [results, Try.results83, go_sem, r0, r1, r2, r3, r4, r5, r6, whOf]) rfl ⟨.inr ⟨HP.out, rfl⟩, ho9.below ht (by omega)⟩
      · by_cases h4 : leastOf xs < 0
        · have HP := Lib.hid (isPl_low (a := a) (b := b) (d := d) (s := s) hne h4)
          have H1 := Lib.hid h1
          have H3 := Lib.hid h3
          clear h1 h3 h2 hx
          go_enter Try.func83, Try.ntmps83
          go_wp2_with fail
          refine (isIsles_any a b d _).mono ?_
          rintro e w1 ⟨rfl, hb⟩
          rw [H1.out]
          replace ht := below_then ht hb ht.size
          replace hA2 := hA2.below hb
          replace hi := hi.below hb
          replace hp := hp.below hb
          replace hz := hz.below hb
          clear hb c0 c1 c2 p0 p1
          obtain ⟨c0, c1, c2⟩ := hi.cells3
          obtain ⟨p0, p1⟩ := hp.cells2
          go_wp2_with fail
          refine (containsI_any A n c xs s _ (by exact hA2) HX.out (by omega)).mono ?_
          rintro e w2 ⟨rfl, rfl⟩
          rw [has_any, H3.out]
          clear c0 c1 c2 p0 p1
          go_wp2_with fail
          refine wp_region_held_drew (S := (fun w' => Holds w' A (nums xs) ∧ w'.cell? ⟨w.heap.size + 1, 0, none⟩ = some (.slice A n c) ∧ Box3 w.heap.size (.int .i64 a) (.int .i64 b) (.int .i64 d) w')) (by kernel_rfl) ⟨hA2.drew, hp.drew.cell 0, hi.drew.cell 0, hi.drew.cell 1, hi.drew.cell 2⟩ (fun hHeld => ?_)
          replace hA2 := hA2.drew
          replace hi := hi.drew
          replace hp := hp.drew
          replace hz := hz.drew
          replace ht := ht.drew
          have hd4 : decide (leastOf xs < 0) = true := by simp; omega
          refine wpAnyH_take (i := 0) (v := ?_) rfl (by kernel_rfl) (by kernel_rfl) (by kernel_rfl) (fun _ _ _ h => h) (Or.inl ⟨rfl, ?_⟩) hHeld ?_
          rotate_left
          · intro w' hS; obtain ⟨s0, s1, s2, s3, s4⟩ := hS; go_simp <;> with_reducible rfl
          simp only [Act.put, List.getElem_toArray, List.getElem_cons_succ, List.getElem_cons_zero, List.setIfInBounds_toArray, List.set_cons_succ, List.set_cons_zero]
          refine wpAnyH_take (i := 1) (v := ?_) rfl (by kernel_rfl) (by kernel_rfl) (by kernel_rfl) (fun _ _ _ h => h) (Or.inl ⟨rfl, ?_⟩) hHeld ?_
          rotate_left
          · intro w' hS; obtain ⟨s0, s1, s2, s3, s4⟩ := hS; go_simp <;> with_reducible rfl
          simp only [Act.put, List.getElem_toArray, List.getElem_cons_succ, List.getElem_cons_zero, List.setIfInBounds_toArray, List.set_cons_succ, List.set_cons_zero]
          refine wpAnyH_ready (rs := [2]) (by kernel_rfl) (by simp) (AllReadyH.cons rfl (fun K hK => ?_) AllReadyH.nil)
          go_simp
          refine (sliceMin_any A n c xs _ (by exact hA2) HX.out h0 (by omega)).mono ?_
          rintro e w3 ⟨rfl, hw3⟩
          subst hw3
          refine hK.out _ _ ⟨hA2, hp.cell 0, hi.cell 0, hi.cell 1, hi.cell 2⟩ (fun hHeld => ?_)
          clear hK K
          try simp only [Act.put, List.getElem_toArray, List.getElem_cons_succ, List.getElem_cons_zero, List.setIfInBounds_toArray, List.set_cons_succ, List.set_cons_zero]
          refine wpAnyH_take (i := 3) (v := ?_) rfl (by kernel_rfl) (by kernel_rfl) (by kernel_rfl) (fun _ _ _ h => h) (Or.inl ⟨rfl, ?_⟩) hHeld ?_
          rotate_left
          · intro w' hS; obtain ⟨s0, s1, s2, s3, s4⟩ := hS; go_simp <;> with_reducible rfl
          simp only [Act.put, List.getElem_toArray, List.getElem_cons_succ, List.getElem_cons_zero, List.setIfInBounds_toArray, List.set_cons_succ, List.set_cons_zero]
          refine wpAnyH_take (i := 4) (v := ?_) rfl (by kernel_rfl) (by kernel_rfl) (by kernel_rfl) (fun _ _ _ h => h) (Or.inl ⟨rfl, ?_⟩) hHeld ?_
          rotate_left
          · intro w' hS; obtain ⟨s0, s1, s2, s3, s4⟩ := hS; go_simp <;> with_reducible rfl
          simp only [Act.put, List.getElem_toArray, List.getElem_cons_succ, List.getElem_cons_zero, List.setIfInBounds_toArray, List.set_cons_succ, List.set_cons_zero]
          refine wpAnyH_take (i := 5) (v := undef) rfl (by kernel_rfl) (by kernel_rfl) (by kernel_rfl) (fun _ _ _ h => h) (Or.inr ⟨by simp [Region.wanted, yielded], rfl⟩) hHeld ?_
          simp only [Act.put, List.getElem_toArray, List.getElem_cons_succ, List.getElem_cons_zero, List.setIfInBounds_toArray, List.set_cons_succ, List.set_cons_zero]
          refine wpAnyH_take (i := 6) (v := undef) rfl (by kernel_rfl) (by kernel_rfl) (by kernel_rfl) (fun _ _ _ h => h) (Or.inr ⟨by simp [Region.wanted, yielded], rfl⟩) hHeld ?_
          simp only [Act.put, List.getElem_toArray, List.getElem_cons_succ, List.getElem_cons_zero, List.setIfInBounds_toArray, List.set_cons_succ, List.set_cons_zero]
          refine wpAnyH_take (i := 7) (v := undef) rfl (by kernel_rfl) (by kernel_rfl) (by kernel_rfl) (fun _ _ _ h => h) (Or.inr ⟨by simp [Region.wanted, yielded], rfl⟩) hHeld ?_
          simp only [Act.put, List.getElem_toArray, List.getElem_cons_succ, List.getElem_cons_zero, List.setIfInBounds_toArray, List.set_cons_succ, List.set_cons_zero]
          refine wpAnyH_take (i := 8) (v := undef) rfl (by kernel_rfl) (by kernel_rfl) (by kernel_rfl) (fun _ _ _ h => h) (Or.inr ⟨by simp [Region.wanted, yielded], rfl⟩) hHeld ?_
          simp only [Act.put, List.getElem_toArray, List.getElem_cons_succ, List.getElem_cons_zero, List.setIfInBounds_toArray, List.set_cons_succ, List.set_cons_zero]
          refine wpAnyH_take (i := 9) (v := undef) rfl (by kernel_rfl) (by kernel_rfl) (by kernel_rfl) (fun _ _ _ h => h) (Or.inr ⟨by simp [Region.wanted, yielded], rfl⟩) hHeld ?_
          simp only [Act.put, List.getElem_toArray, List.getElem_cons_succ, List.getElem_cons_zero, List.setIfInBounds_toArray, List.set_cons_succ, List.set_cons_zero]
          refine wpAnyH_take (i := 10) (v := undef) rfl (by kernel_rfl) (by kernel_rfl) (by kernel_rfl) (fun _ _ _ h => h) (Or.inr ⟨by simp [Region.wanted, yielded], rfl⟩) hHeld ?_
          simp only [Act.put, List.getElem_toArray, List.getElem_cons_succ, List.getElem_cons_zero, List.setIfInBounds_toArray, List.set_cons_succ, List.set_cons_zero]
          refine wpAnyH_take (i := 11) (v := ?_) rfl (by kernel_rfl) (by kernel_rfl) (by kernel_rfl) (fun _ _ _ h => h) (Or.inl ⟨rfl, ?_⟩) hHeld ?_
          rotate_left
          · intro w' hS; obtain ⟨s0, s1, s2, s3, s4⟩ := hS; go_simp <;> with_reducible rfl
          simp only [Act.put, List.getElem_toArray, List.getElem_cons_succ, List.getElem_cons_zero, List.setIfInBounds_toArray, List.set_cons_succ, List.set_cons_zero]
          refine wpAnyH_done (by kernel_rfl) ?_ _
          clear hHeld
          obtain ⟨c0, c1, c2⟩ := hi.cells3
          obtain ⟨p0, p1⟩ := hp.cells2
          go_wp2_with (refine wpList_store_whole rfl 109 (.tmp 4) (.tmp 40) rfl (w.heap.size + 1 + 1) (whOf [] 0) rfl rfl 109 (whOf [] 0) hz size_wh rfl (wh_one _ _) ?_; intro w9 hw9 ho9)
          obtain ⟨r0, r1, r2, r3, r4, r5, r6⟩ := wh_cells hw9
          refine bodyPost_ret (v := .tuple #[.agg (whOf [] 0), .bool false]) (by simp [results, Try.results83, go_sem, r0, r1, r2, r3, r4, r5, r6, whOf]) rfl ⟨.inr ⟨HP.out, rfl⟩, ho9.below ht (by omega)⟩
        · by_cases h5 : d + 1 < mostOf xs
          · have HP := Lib.hid (isPl_high (a := a) (b := b) (s := s) hne h5)
            have H1 := Lib.hid h1
            have H3 := Lib.hid h3
            clear h1 h3 h2 hx
            go_enter Try.func83, Try.ntmps83
            go_wp2_with fail
            refine (isIsles_any a b d _).mono ?_
            rintro e w1 ⟨rfl, hb⟩
            rw [H1.out]
            replace ht := below_then ht hb ht.size
            replace hA2 := hA2.below hb
            replace hi := hi.below hb
            replace hp := hp.below hb
            replace hz := hz.below hb
            clear hb c0 c1 c2 p0 p1
            obtain ⟨c0, c1, c2⟩ := hi.cells3
            obtain ⟨p0, p1⟩ := hp.cells2
            go_wp2_with fail
            refine (containsI_any A n c xs s _ (by exact hA2) HX.out (by omega)).mono ?_
            rintro e w2 ⟨rfl, rfl⟩
            rw [has_any, H3.out]
            clear c0 c1 c2 p0 p1
            go_wp2_with fail
            refine wp_region_held_drew (S := (fun w' => Holds w' A (nums xs) ∧ w'.cell? ⟨w.heap.size + 1, 0, none⟩ = some (.slice A n c) ∧ Box3 w.heap.size (.int .i64 a) (.int .i64 b) (.int .i64 d) w')) (by kernel_rfl) ⟨hA2.drew, hp.drew.cell 0, hi.drew.cell 0, hi.drew.cell 1, hi.drew.cell 2⟩ (fun hHeld => ?_)
            replace hA2 := hA2.drew
            replace hi := hi.drew
            replace hp := hp.drew
            replace hz := hz.drew
            replace ht := ht.drew
            have hd4 : decide (leastOf xs < 0) = false := by simp; omega
            refine wpAnyH_take (i := 0) (v := ?_) rfl (by kernel_rfl) (by kernel_rfl) (by kernel_rfl) (fun _ _ _ h => h) (Or.inl ⟨rfl, ?_⟩) hHeld ?_
            rotate_left
            · intro w' hS; obtain ⟨s0, s1, s2, s3, s4⟩ := hS; go_simp <;> with_reducible rfl
            simp only [Act.put, List.getElem_toArray, List.getElem_cons_succ, List.getElem_cons_zero, List.setIfInBounds_toArray, List.set_cons_succ, List.set_cons_zero]
            refine wpAnyH_take (i := 1) (v := ?_) rfl (by kernel_rfl) (by kernel_rfl) (by kernel_rfl) (fun _ _ _ h => h) (Or.inl ⟨rfl, ?_⟩) hHeld ?_
            rotate_left
            · intro w' hS; obtain ⟨s0, s1, s2, s3, s4⟩ := hS; go_simp <;> with_reducible rfl
            simp only [Act.put, List.getElem_toArray, List.getElem_cons_succ, List.getElem_cons_zero, List.setIfInBounds_toArray, List.set_cons_succ, List.set_cons_zero]
            refine wpAnyH_ready (rs := [2]) (by kernel_rfl) (by simp) (AllReadyH.cons rfl (fun K hK => ?_) AllReadyH.nil)
            go_simp
            refine (sliceMin_any A n c xs _ (by exact hA2) HX.out h0 (by omega)).mono ?_
            rintro e w3 ⟨rfl, hw3⟩
            subst hw3
            refine hK.out _ _ ⟨hA2, hp.cell 0, hi.cell 0, hi.cell 1, hi.cell 2⟩ (fun hHeld => ?_)
            clear hK K
            try simp only [Act.put, List.getElem_toArray, List.getElem_cons_succ, List.getElem_cons_zero, List.setIfInBounds_toArray, List.set_cons_succ, List.set_cons_zero]
            refine wpAnyH_take (i := 3) (v := ?_) rfl (by kernel_rfl) (by kernel_rfl) (by kernel_rfl) (fun _ _ _ h => h) (Or.inl ⟨rfl, ?_⟩) hHeld ?_
            rotate_left
            · intro w' hS; obtain ⟨s0, s1, s2, s3, s4⟩ := hS; go_simp <;> with_reducible rfl
            simp only [Act.put, List.getElem_toArray, List.getElem_cons_succ, List.getElem_cons_zero, List.setIfInBounds_toArray, List.set_cons_succ, List.set_cons_zero]
            refine wpAnyH_take (i := 4) (v := ?_) rfl (by kernel_rfl) (by kernel_rfl) (by kernel_rfl) (fun _ _ _ h => h) (Or.inl ⟨rfl, ?_⟩) hHeld ?_
            rotate_left
            · intro w' hS; obtain ⟨s0, s1, s2, s3, s4⟩ := hS; go_simp <;> with_reducible rfl
            simp only [Act.put, List.getElem_toArray, List.getElem_cons_succ, List.getElem_cons_zero, List.setIfInBounds_toArray, List.set_cons_succ, List.set_cons_zero]
            refine wpAnyH_take (i := 5) (v := ?_) rfl (by kernel_rfl) (by kernel_rfl) (by kernel_rfl) (fun _ _ _ h => h) (Or.inl ⟨rfl, ?_⟩) hHeld ?_
            rotate_left
            · intro w' hS; obtain ⟨s0, s1, s2, s3, s4⟩ := hS; go_simp <;> with_reducible rfl
            simp only [Act.put, List.getElem_toArray, List.getElem_cons_succ, List.getElem_cons_zero, List.setIfInBounds_toArray, List.set_cons_succ, List.set_cons_zero]
            refine wpAnyH_take (i := 6) (v := ?_) rfl (by kernel_rfl) (by kernel_rfl) (by kernel_rfl) (fun _ _ _ h => h) (Or.inl ⟨rfl, ?_⟩) hHeld ?_
            rotate_left
            · intro w' hS; obtain ⟨s0, s1, s2, s3, s4⟩ := hS; go_simp <;> with_reducible rfl
            simp only [Act.put, List.getElem_toArray, List.getElem_cons_succ, List.getElem_cons_zero, List.setIfInBounds_toArray, List.set_cons_succ, List.set_cons_zero]
            refine wpAnyH_take (i := 8) (v := ?_) rfl (by kernel_rfl) (by kernel_rfl) (by kernel_rfl) (fun _ _ _ h => h) (Or.inl ⟨rfl, ?_⟩) hHeld ?_
            rotate_left
            · intro w' hS; obtain ⟨s0, s1, s2, s3, s4⟩ := hS; go_simp <;> with_reducible rfl
            simp only [Act.put, List.getElem_toArray, List.getElem_cons_succ, List.getElem_cons_zero, List.setIfInBounds_toArray, List.set_cons_succ, List.set_cons_zero]
            refine wpAnyH_ready (rs := [7]) (by kernel_rfl) (by simp) (AllReadyH.cons rfl (fun K hK => ?_) AllReadyH.nil)
            go_simp
            refine (sliceMax_any A n c xs _ (by exact hA2) HX.out h0 (by omega)).mono ?_
            rintro e w3 ⟨rfl, hw3⟩
            subst hw3
            refine hK.out _ _ ⟨hA2, hp.cell 0, hi.cell 0, hi.cell 1, hi.cell 2⟩ (fun hHeld => ?_)
            clear hK K
            try simp only [Act.put, List.getElem_toArray, List.getElem_cons_succ, List.getElem_cons_zero, List.setIfInBounds_toArray, List.set_cons_succ, List.set_cons_zero]
            refine wpAnyH_ready (rs := [9]) (by kernel_rfl) (by simp) (AllReadyH.cons rfl (fun K hK => ?_) AllReadyH.nil)
            go_simp
            refine (otherBank_any' a b d _ (by omega) (by omega)).mono ?_
            rintro e w4 ⟨rfl, hb⟩
            replace ht := below_then ht hb ht.size
            replace hA2 := hA2.below hb
            replace hi := hi.below hb
            replace hp := hp.below hb
            replace hz := hz.below hb
            clear hb
            refine hK.out _ _ ⟨hA2, hp.cell 0, hi.cell 0, hi.cell 1, hi.cell 2⟩ (fun hHeld => ?_)
            clear hK K
            try simp only [Act.put, List.getElem_toArray, List.getElem_cons_succ, List.getElem_cons_zero, List.setIfInBounds_toArray, List.set_cons_succ, List.set_cons_zero]
            refine wpAnyH_take (i := 10) (v := ?_) rfl (by kernel_rfl) (by kernel_rfl) (by kernel_rfl) (fun _ _ _ h => h) (Or.inl ⟨rfl, ?_⟩) hHeld ?_
            rotate_left
            · intro w' hS; obtain ⟨s0, s1, s2, s3, s4⟩ := hS; go_simp <;> with_reducible rfl
            simp only [Act.put, List.getElem_toArray, List.getElem_cons_succ, List.getElem_cons_zero, List.setIfInBounds_toArray, List.set_cons_succ, List.set_cons_zero]
            refine wpAnyH_take (i := 11) (v := ?_) rfl (by kernel_rfl) (by kernel_rfl) (by kernel_rfl) (fun _ _ _ h => h) (Or.inl ⟨rfl, ?_⟩) hHeld ?_
            rotate_left
            · intro w' hS; obtain ⟨s0, s1, s2, s3, s4⟩ := hS; go_simp <;> with_reducible rfl
            simp only [Act.put, List.getElem_toArray, List.getElem_cons_succ, List.getElem_cons_zero, List.setIfInBounds_toArray, List.set_cons_succ, List.set_cons_zero]
            refine wpAnyH_done (by kernel_rfl) ?_ _
            clear hHeld
            obtain ⟨c0, c1, c2⟩ := hi.cells3
            obtain ⟨p0, p1⟩ := hp.cells2
            have hd5 : decide (d + 1 < mostOf xs) = true := by simp; omega
            go_wp2_with (refine wpList_store_whole rfl 109 (.tmp 4) (.tmp 40) rfl (w.heap.size + 1 + 1) (whOf [] 0) rfl rfl 109 (whOf [] 0) hz size_wh rfl (wh_one _ _) ?_; intro w9 hw9 ho9)
            obtain ⟨r0, r1, r2, r3, r4, r5, r6⟩ := wh_cells hw9
            refine bodyPost_ret (v := .tuple #[.agg (whOf [] 0), .bool false]) (by simp [results, Try.results83, go_sem, r0, r1, r2, r3, r4, r5, r6, whOf]) rfl ⟨.inr ⟨HP.out, rfl⟩, ho9.below ht (by omega)⟩
          · have HP := Lib.hid (isPl_all hne h1 h2 h3 (by omega) (by omega))
            have H1 := Lib.hid h1
            have H3 := Lib.hid h3
            clear h1 h3 h2 hx
            go_enter Try.func83, Try.ntmps83
            go_wp2_with fail
            refine (isIsles_any a b d _).mono ?_
            rintro e w1 ⟨rfl, hb⟩
            rw [H1.out]
            replace ht := below_then ht hb ht.size
            replace hA2 := hA2.below hb
            replace hi := hi.below hb
            replace hp := hp.below hb
            replace hz := hz.below hb
            clear hb c0 c1 c2 p0 p1
            obtain ⟨c0, c1, c2⟩ := hi.cells3
            obtain ⟨p0, p1⟩ := hp.cells2
            go_wp2_with fail
            refine (containsI_any A n c xs s _ (by exact hA2) HX.out (by omega)).mono ?_
            rintro e w2 ⟨rfl, rfl⟩
            rw [has_any, H3.out]
            clear c0 c1 c2 p0 p1
            go_wp2_with fail
            refine wp_region_held_drew (S := (fun w' => Holds w' A (nums xs) ∧ w'.cell? ⟨w.heap.size + 1, 0, none⟩ = some (.slice A n c) ∧ Box3 w.heap.size (.int .i64 a) (.int .i64 b) (.int .i64 d) w')) (by kernel_rfl) ⟨hA2.drew, hp.drew.cell 0, hi.drew.cell 0, hi.drew.cell 1, hi.drew.cell 2⟩ (fun hHeld => ?_)
            replace hA2 := hA2.drew
            replace hi := hi.drew
            replace hp := hp.drew
            replace hz := hz.drew
            replace ht := ht.drew
            have hd4 : decide (leastOf xs < 0) = false := by simp; omega
            refine wpAnyH_take (i := 0) (v := ?_) rfl (by kernel_rfl) (by kernel_rfl) (by kernel_rfl) (fun _ _ _ h => h) (Or.inl ⟨rfl, ?_⟩) hHeld ?_
            rotate_left
            · intro w' hS; obtain ⟨s0, s1, s2, s3, s4⟩ := hS; go_simp <;> with_reducible rfl
            simp only [Act.put, List.getElem_toArray, List.getElem_cons_succ, List.getElem_cons_zero, List.setIfInBounds_toArray, List.set_cons_succ, List.set_cons_zero]
            refine wpAnyH_take (i := 1) (v := ?_) rfl (by kernel_rfl) (by kernel_rfl) (by kernel_rfl) (fun _ _ _ h => h) (Or.inl ⟨rfl, ?_⟩) hHeld ?_
            rotate_left
            · intro w' hS; obtain ⟨s0, s1, s2, s3, s4⟩ := hS; go_simp <;> with_reducible rfl
            simp only [Act.put, List.getElem_toArray, List.getElem_cons_succ, List.getElem_cons_zero, List.setIfInBounds_toArray, List.set_cons_succ, List.set_cons_zero]
            refine wpAnyH_ready (rs := [2]) (by kernel_rfl) (by simp) (AllReadyH.cons rfl (fun K hK => ?_) AllReadyH.nil)
            go_simp
            refine (sliceMin_any A n c xs _ (by exact hA2) HX.out h0 (by omega)).mono ?_
            rintro e w3 ⟨rfl, hw3⟩
            subst hw3
            refine hK.out _ _ ⟨hA2, hp.cell 0, hi.cell 0, hi.cell 1, hi.cell 2⟩ (fun hHeld => ?_)
            clear hK K
            try simp only [Act.put, List.getElem_toArray, List.getElem_cons_succ, List.getElem_cons_zero, List.setIfInBounds_toArray, List.set_cons_succ, List.set_cons_zero]
            refine wpAnyH_take (i := 3) (v := ?_) rfl (by kernel_rfl) (by kernel_rfl) (by kernel_rfl) (fun _ _ _ h => h) (Or.inl ⟨rfl, ?_⟩) hHeld ?_
            rotate_left
            · intro w' hS; obtain ⟨s0, s1, s2, s3, s4⟩ := hS; go_simp <;> with_reducible rfl
            simp only [Act.put, List.getElem_toArray, List.getElem_cons_succ, List.getElem_cons_zero, List.setIfInBounds_toArray, List.set_cons_succ, List.set_cons_zero]
            refine wpAnyH_take (i := 4) (v := ?_) rfl (by kernel_rfl) (by kernel_rfl) (by kernel_rfl) (fun _ _ _ h => h) (Or.inl ⟨rfl, ?_⟩) hHeld ?_
            rotate_left
            · intro w' hS; obtain ⟨s0, s1, s2, s3, s4⟩ := hS; go_simp <;> with_reducible rfl
            simp only [Act.put, List.getElem_toArray, List.getElem_cons_succ, List.getElem_cons_zero, List.setIfInBounds_toArray, List.set_cons_succ, List.set_cons_zero]
            refine wpAnyH_take (i := 5) (v := ?_) rfl (by kernel_rfl) (by kernel_rfl) (by kernel_rfl) (fun _ _ _ h => h) (Or.inl ⟨rfl, ?_⟩) hHeld ?_
            rotate_left
            · intro w' hS; obtain ⟨s0, s1, s2, s3, s4⟩ := hS; go_simp <;> with_reducible rfl
            simp only [Act.put, List.getElem_toArray, List.getElem_cons_succ, List.getElem_cons_zero, List.setIfInBounds_toArray, List.set_cons_succ, List.set_cons_zero]
            refine wpAnyH_take (i := 6) (v := ?_) rfl (by kernel_rfl) (by kernel_rfl) (by kernel_rfl) (fun _ _ _ h => h) (Or.inl ⟨rfl, ?_⟩) hHeld ?_
            rotate_left
            · intro w' hS; obtain ⟨s0, s1, s2, s3, s4⟩ := hS; go_simp <;> with_reducible rfl
            simp only [Act.put, List.getElem_toArray, List.getElem_cons_succ, List.getElem_cons_zero, List.setIfInBounds_toArray, List.set_cons_succ, List.set_cons_zero]
            refine wpAnyH_take (i := 8) (v := ?_) rfl (by kernel_rfl) (by kernel_rfl) (by kernel_rfl) (fun _ _ _ h => h) (Or.inl ⟨rfl, ?_⟩) hHeld ?_
            rotate_left
            · intro w' hS; obtain ⟨s0, s1, s2, s3, s4⟩ := hS; go_simp <;> with_reducible rfl
            simp only [Act.put, List.getElem_toArray, List.getElem_cons_succ, List.getElem_cons_zero, List.setIfInBounds_toArray, List.set_cons_succ, List.set_cons_zero]
            refine wpAnyH_ready (rs := [7]) (by kernel_rfl) (by simp) (AllReadyH.cons rfl (fun K hK => ?_) AllReadyH.nil)
            go_simp
            refine (sliceMax_any A n c xs _ (by exact hA2) HX.out h0 (by omega)).mono ?_
            rintro e w3 ⟨rfl, hw3⟩
            subst hw3
            refine hK.out _ _ ⟨hA2, hp.cell 0, hi.cell 0, hi.cell 1, hi.cell 2⟩ (fun hHeld => ?_)
            clear hK K
            try simp only [Act.put, List.getElem_toArray, List.getElem_cons_succ, List.getElem_cons_zero, List.setIfInBounds_toArray, List.set_cons_succ, List.set_cons_zero]
            refine wpAnyH_ready (rs := [9]) (by kernel_rfl) (by simp) (AllReadyH.cons rfl (fun K hK => ?_) AllReadyH.nil)
            go_simp
            refine (otherBank_any' a b d _ (by omega) (by omega)).mono ?_
            rintro e w4 ⟨rfl, hb⟩
            replace ht := below_then ht hb ht.size
            replace hA2 := hA2.below hb
            replace hi := hi.below hb
            replace hp := hp.below hb
            replace hz := hz.below hb
            clear hb
            refine hK.out _ _ ⟨hA2, hp.cell 0, hi.cell 0, hi.cell 1, hi.cell 2⟩ (fun hHeld => ?_)
            clear hK K
            try simp only [Act.put, List.getElem_toArray, List.getElem_cons_succ, List.getElem_cons_zero, List.setIfInBounds_toArray, List.set_cons_succ, List.set_cons_zero]
            refine wpAnyH_take (i := 10) (v := ?_) rfl (by kernel_rfl) (by kernel_rfl) (by kernel_rfl) (fun _ _ _ h => h) (Or.inl ⟨rfl, ?_⟩) hHeld ?_
            rotate_left
            · intro w' hS; obtain ⟨s0, s1, s2, s3, s4⟩ := hS; go_simp <;> with_reducible rfl
            simp only [Act.put, List.getElem_toArray, List.getElem_cons_succ, List.getElem_cons_zero, List.setIfInBounds_toArray, List.set_cons_succ, List.set_cons_zero]
            refine wpAnyH_take (i := 11) (v := ?_) rfl (by kernel_rfl) (by kernel_rfl) (by kernel_rfl) (fun _ _ _ h => h) (Or.inl ⟨rfl, ?_⟩) hHeld ?_
            rotate_left
            · intro w' hS; obtain ⟨s0, s1, s2, s3, s4⟩ := hS; go_simp <;> with_reducible rfl
            simp only [Act.put, List.getElem_toArray, List.getElem_cons_succ, List.getElem_cons_zero, List.setIfInBounds_toArray, List.set_cons_succ, List.set_cons_zero]
            refine wpAnyH_done (by kernel_rfl) ?_ _
            clear hHeld
            obtain ⟨c0, c1, c2⟩ := hi.cells3
            obtain ⟨p0, p1⟩ := hp.cells2
            have hd5 : decide (d + 1 < mostOf xs) = false := by simp; omega
            have hpl := hp.lt
            have hzl := hz.lt
            have hsz4 := ht.size
            go_wp2
            have hblk : Whole (w4.alloc (.cells #[.int .i64 0, .int .i64 0, .int .i64 0, .int .i64 0, .int .i64 0, .int .i64 0, .int .i64 s] 109)) w4.heap.size 109 (whOf [] s) := Whole.fresh w4 109 (whOf [] s)
            have hfar := hA2.alloc (.cells #[.int .i64 0, .int .i64 0, .int .i64 0, .int .i64 0, .int .i64 0, .int .i64 0, .int .i64 s] 109)
            have hb3 := below1 w4 (.cells #[.int .i64 0, .int .i64 0, .int .i64 0, .int .i64 0, .int .i64 0, .int .i64 0, .int .i64 s] 109)
            have hsrc : 0 < (nums xs).length → (some ⟨w4.heap.size, 0, none⟩ : Option Addr) = some ⟨w4.heap.size, 0, none⟩ ∧ ∃ ad : Addr, A = some ad ∧ ∀ j v, (nums xs)[j]? = some v → (w4.alloc (.cells #[.int .i64 0, .int .i64 0, .int .i64 0, .int .i64 0, .int .i64 0, .int .i64 0, .int .i64 s] 109)).cell? (ad.add j) = some v := by
              intro h0
              refine ⟨rfl, ?_⟩
              rcases hfar with h | ⟨b, o, hA, hb, hc⟩
              · rw [h] at h0; simp at h0
              · exact ⟨_, hA, fun j v hv => by rw [show (⟨b, o, none⟩ : Addr).add j = ⟨b, o + j, none⟩ from by unfold Addr.add; split <;> simp_all]; exact hc j v hv⟩
            have HSRC := Lib.hid hsrc
            have HBL := Lib.hid (show (nums xs).length = Nat.min n 6 by rw [nums_len, HX.out]; exact (Nat.min_eq_left hn6).symm)
            have HONE := Lib.hid (nums_one xs)
            have HFIT := Lib.hid (show 0 + (nums xs).length ≤ (whOf [] s).toList.length by rw [nums_len, HX.out]; show 0 + n ≤ 7; omega)
            have HT4 := Lib.hid ht
            clear hsrc hfar ht
            go_region_law (refine step_copy_splice rfl (.tmp 45) (.tmp 47) 25 25 rfl 3 Try.underlying25 size_int (some ⟨w4.heap.size, 0, none⟩) A 6 6 n c (by simp [Act.eval]) (by simp [Act.eval]) w4.heap.size 0 (whOf [] s).toList 109 (by exact hblk.drew) (nums xs) HBL.out (by exact HSRC.out) HFIT.out HONE.out w4.heap.size _ (by exact hb3.drew) (Nat.le_refl _) ?_; intro w' hw' hb')
            have hq : Whole w' w4.heap.size 109 (whOf xs s) := by
              have h := hw'.out
              rw [splice_wh xs s (by rw [HX.out]; exact hn6)] at h
              exact h
            have hr := hz.below' hb' (by omega)
            have hbw : Below w.heap.size w w' := below_then HT4.out (by simpa using hb') (by omega)
            go_wp2_with (first | (refine wpList_load_row rfl 109 (.tmp 6) rfl w4.heap.size rfl 109 (whOf xs s) (0, 0) _ hq Try.underlying109 rfl size_wh ?_) | (refine wpList_store_whole rfl 109 (.tmp 4) (.tmp 49) rfl (w.heap.size + 1 + 1) (whOf xs s) rfl rfl 109 _ hr size_wh rfl (wh_one _ _) ?_; intro w9 hw9 ho9))
            obtain ⟨r0, r1, r2, r3, r4, r5, r6⟩ := wh_cells hw9
            refine bodyPost_ret (v := .tuple #[.agg (whOf xs s), .bool true]) (by simp [results, Try.results83, go_sem, r0, r1, r2, r3, r4, r5, r6, whOf]) rfl ⟨.inl ⟨HP.out, rfl⟩, ho9.below hbw (by omega)⟩
    · have HP := Lib.hid (isPl_len (b := b) (d := d) (s := s) h2)
      have hd2 : ((n : Int) != 2 * a) = true := by rw [← hx]; simpa using h2
      have H1 := Lib.hid h1
      clear h1 h2 hx
      go_enter Try.func83, Try.ntmps83
      go_wp2_with fail
      refine (isIsles_any a b d _).mono ?_
      rintro e w1 ⟨rfl, hb⟩
      rw [H1.out]
      replace ht := below_then ht hb ht.size
      replace hA2 := hA2.below hb
      replace hi := hi.below hb
      replace hp := hp.below hb
      replace hz := hz.below hb
      clear hb c0 c1 c2 p0 p1
      obtain ⟨c0, c1, c2⟩ := hi.cells3
      obtain ⟨p0, p1⟩ := hp.cells2
      go_wp2_with (refine wpList_store_whole rfl 109 (.tmp 4) (.tmp 27) rfl (w.heap.size + 1 + 1) (whOf [] 0) rfl rfl 109 (whOf [] 0) hz size_wh rfl (wh_one _ _) ?_; intro w9 hw9 ho9)
      obtain ⟨r0, r1, r2, r3, r4, r5, r6⟩ := wh_cells hw9
      refine bodyPost_ret (v := .tuple #[.agg (whOf [] 0), .bool false]) (by simp [results, Try.results83, go_sem, r0, r1, r2, r3, r4, r5, r6, whOf]) rfl ⟨.inr ⟨HP.out, rfl⟩, ho9.below ht (by omega)⟩

set_option maxHeartbeats 1600000 in
theorem implArePlaces_any (a b d : Int) (A : Option Addr) (n c : Nat) (xs : List Int) (s : Int) (w : World) (hA : Holds w A (nums xs)) (hx : xs.length = n) (hn : n ≤ 1048576) :
    Calls Try.prog 45 #[.agg #[.int .i64 a, .int .i64 b, .int .i64 d], .agg #[.slice A n c, .int .i64 s]] w fun e w' => e = .returned (.bool (isPl a b d xs s)) ∧ Below w.heap.size w w' := by
  have HX := Lib.hid hx
  have hA2 := (hA.alloc (.cells #[.int .i64 a, .int .i64 b, .int .i64 d] 59)).alloc (.cells #[.slice A n c, .int .i64 s] 66)
  have ht := below2 w (.cells #[.int .i64 a, .int .i64 b, .int .i64 d] 59) (.cells #[.slice A n c, .int .i64 s] 66)
  go_enter Try.func45, Try.ntmps45
  go_wp2_with fail
  refine (whereaboutsOf_any a b d A n c xs s _ (by exact hA2) HX.out hn).mono ?_
  rintro e w1 ⟨⟨hp, rfl⟩ | ⟨hp, rfl⟩, hb⟩
  · have HP := Lib.hid hp
    have HT := Lib.hid ((below_then ht hb ht.size).alloc (below_then ht hb ht.size).size (.cells (whOf xs s) 109))
    clear hp hb hA2 ht hx
    unfold whOf at HT
    unfold whOf
    go_wp2
    go_ret
    exact ⟨ret_of (by rw [HP.out]; rfl), HT.out⟩
  · have HP := Lib.hid hp
    have HT := Lib.hid ((below_then ht hb ht.size).alloc (below_then ht hb ht.size).size (.cells (whOf [] 0) 109))
    clear hp hb hA2 ht hx
    unfold whOf at HT
    unfold whOf
    go_wp2
    go_ret
    exact ⟨ret_of (by rw [HP.out]; rfl), HT.out⟩
end Go.Proofs.Ytjkiclhihhhpmaa
