/-
  What is proved: contracts of the laws' marks: a row of the call's own is overwritten by a count, and found so again. Conditions: the row is a new one, open to writes; counts are small.
-/
import Derived.Test.YtcoagbcleccmmaaState
namespace Go.Proofs.Ytcoagbcleccmmaa
open Go.RowKit

/-- A row of the call's own: it begins at the head of a block from lo on and before hi, and its first cells are xs. -/
def Fresh (w : World) (lo hi : Nat) (ty : TypeId) (A : Option Addr) (xs : List Value) : Prop :=
  xs = [] ∨ ∃ (g : Nat) (cs : Array Value), A = some ⟨g, 0, none⟩ ∧ lo ≤ g ∧ g < hi ∧ Whole w g ty cs ∧ xs.length ≤ cs.size ∧ cs.toList.take xs.length = xs
/-- Of what was there, only blocks from lo on and before hi may have turned. -/
structure Span (lo hi : Nat) (w w' : World) : Prop where
  os : w'.os = w.os
  tape : w'.tape = w.tape
  output : w'.output = w.output
  size : w.heap.size ≤ w'.heap.size
  block : ∀ k, k < w.heap.size → (k < lo ∨ hi ≤ k) → w'.heap[k]? = w.heap[k]?

section
variable {w w' : World} {lo hi lo' hi' B : Nat} {ty : TypeId} {A : Option Addr} {xs : List Value}
theorem Span.refl (lo hi : Nat) (w : World) : Span lo hi w w := ⟨rfl, rfl, rfl, Nat.le_refl _, fun _ _ _ => rfl⟩
theorem Span.of_below (h : Below w.heap.size w w') (lo hi : Nat) : Span lo hi w w' := ⟨h.os, h.tape, h.output, h.size, fun k hk _ => h.block k hk⟩
theorem Span.trans {a b c : World} (h : Span lo hi a b) (k : Span lo hi b c) : Span lo hi a c :=
  ⟨k.os.trans h.os, k.tape.trans h.tape, k.output.trans h.output, Nat.le_trans h.size k.size, fun i hi hne => (k.block i (Nat.lt_of_lt_of_le hi h.size) hne).trans (h.block i hi hne)⟩
theorem Span.below {a : World} (h : Span lo hi w w') (hb : Below B a w) (hB : B ≤ lo) (hs : B ≤ w.heap.size) : Below B a w' :=
  hb.trans ⟨h.os, h.tape, h.output, h.size, fun k hk => h.block k (by omega) (.inl (by omega))⟩
theorem Span.whole {g : Nat} {cs : Array Value} (h : Span lo hi w w') (hw : Whole w g ty cs) (hg : g < lo ∨ hi ≤ g) : Whole w' g ty cs := (h.block g hw.lt hg).trans hw
theorem Span.fresh (h : Span lo hi w w') (hf : Fresh w lo' hi' ty A xs) (hd : hi' ≤ lo ∨ hi ≤ lo') : Fresh w' lo' hi' ty A xs := by
  rcases hf with rfl | ⟨g, cs, hA, h1, h2, hw, h3, h4⟩
  · exact .inl rfl
  · exact .inr ⟨g, cs, hA, h1, h2, h.whole hw (by omega), h3, h4⟩
theorem Fresh.below (hf : Fresh w lo hi ty A xs) (h : Below w.heap.size w w') : Fresh w' lo hi ty A xs := by
  rcases hf with rfl | ⟨g, cs, hA, h1, h2, hw, h3, h4⟩
  · exact .inl rfl
  · exact .inr ⟨g, cs, hA, h1, h2, hw.below h, h3, h4⟩
theorem Fresh.alloc (hf : Fresh w lo hi ty A xs) (o : Obj) : Fresh (w.alloc o) lo hi ty A xs := hf.below (below1 w o)
theorem Fresh.drew (hf : Fresh w lo hi ty A xs) : Fresh w.drew lo hi ty A xs := hf
theorem Fresh.more (hf : Fresh w lo hi ty A xs) (h1 : lo' ≤ lo) (h2 : hi ≤ hi') : Fresh w lo' hi' ty A xs := by
  rcases hf with rfl | ⟨g, cs, hA, h3, h4, hw, h5, h6⟩
  · exact .inl rfl
  · exact .inr ⟨g, cs, hA, by omega, by omega, hw, h5, h6⟩
theorem Fresh.holds (hf : Fresh w lo hi ty A xs) : Holds w A xs := by
  rcases hf with rfl | ⟨g, cs, hA, -, -, hw, -, h4⟩
  · exact .inl rfl
  · refine .inr ⟨g, 0, hA, hw.lt, fun j u hu => ?_⟩
    have hj : j < xs.length := (List.getElem?_eq_some_iff.1 hu).1
    rw [Nat.zero_add, hw.cell j, ← hu]
    have := congrArg (fun l : List Value => l[j]?) h4
    simpa [List.getElem?_take, hj] using this
theorem Fresh.of_whole {g : Nat} (hw : Whole w g ty xs.toArray) (h1 : lo ≤ g) (h2 : g < hi) : Fresh w lo hi ty (some ⟨g, 0, none⟩) xs :=
  .inr ⟨g, _, rfl, h1, h2, hw, by simp, by simp⟩
theorem Fresh.of_own {n : Nat} {v : Value} (h : w.ownsRow lo ty 1 v n xs) (hs : w.heap.size ≤ hi) : ∃ (A : Option Addr) (c : Nat), v = .slice A n c ∧ Fresh w lo hi ty A xs := by
  obtain ⟨hl, h⟩ := h
  rcases h with ⟨hv, hn⟩ | ⟨g, cap, cur, hv, hg, hh, h1, h2, h3, h4⟩
  · subst hn
    exact ⟨none, 0, hv, .inl (List.eq_nil_of_length_eq_zero (by simpa using hl))⟩
  · have hw : Whole w g ty cur := hh
    refine ⟨_, cap, hv, .inr ⟨g, cur, rfl, hg, Nat.lt_of_lt_of_le hw.lt hs, hw, by omega, ?_⟩⟩
    rw [hl]
    exact h4
end

def marksI (k : Int) (n : Nat) : List Int := (List.range n).map fun (i : Nat) => k + (i : Int)
def marksB (k : Int) (n : Nat) : List Bool := (List.range n).map fun (i : Nat) => (k + (i : Int)) % 3 == 0
theorem marksI_len (k : Int) (n : Nat) : (marksI k n).length = n := by simp [marksI]
theorem marksB_len (k : Int) (n : Nat) : (marksB k n).length = n := by simp [marksB]

/-- The first k cells overwritten by the count from q on. -/
def marked (f : Nat → Value) (cs : Array Value) (k : Nat) : Array Value := ((List.range k).map f ++ cs.toList.drop k).toArray
theorem marked_zero (f : Nat → Value) (cs : Array Value) : marked f cs 0 = cs := by simp [marked]
theorem marked_at (f : Nat → Value) (cs : Array Value) {k : Nat} (h : k < cs.size) : ∃ u, (marked f cs k)[k]? = some u := by
  refine ⟨cs[k], ?_⟩
  simp only [marked, List.getElem?_toArray]
  rw [List.getElem?_append_right (by simp)]
  simp [h]
theorem marked_next (f : Nat → Value) (cs : Array Value) {k : Nat} (h : k < cs.size) : (marked f cs k).setIfInBounds k (f k) = marked f cs (k + 1) := by
  apply Array.ext_getElem?
  intro j
  rw [Array.getElem?_setIfInBounds]
  simp only [marked, List.getElem?_toArray, List.size_toArray, List.length_append, List.length_map, List.length_range, List.length_drop, Array.length_toList]
  by_cases hj : k = j
  · subst hj
    rw [if_pos rfl, if_pos (by omega), List.getElem?_append_left (by simp)]
    simp
  · rw [if_neg hj]
    by_cases hlt : j < k
    · rw [List.getElem?_append_left (by simpa using hlt), List.getElem?_append_left (by simp; omega)]
      simp [hlt, Nat.lt_succ_of_lt hlt]
    · rw [List.getElem?_append_right (by simp; omega), List.getElem?_append_right (by simp; omega)]
      simp only [List.length_map, List.length_range, List.getElem?_drop]
      congr 1
      omega
theorem marked_take (f : Nat → Value) (cs : Array Value) (n : Nat) : (marked f cs n).toList.take n = (List.range n).map f := by
  simp [marked]

set_option maxHeartbeats 800000 in
theorem markIntS_any (A : Option Addr) (n c lo hi : Nat) (xs : List Value) (q : Int) (w : World) (hf : Fresh w lo hi 3 A xs) (hx : xs.length = n) (h0 : 0 ≤ q) (h1 : q ≤ 4611686018427387904) (hn : n ≤ 1048576) :
    Calls Try.prog 41 #[.slice A n c, .int .i64 q] w fun e w' => e = .returned (.int .i64 (q + n)) ∧ Span lo hi w w' ∧ Fresh w' lo hi 3 A (nums (marksI q n)) := by
  subst hx
  rcases hf with rfl | ⟨g, cs, rfl, hlo, hhi, hw, hle, htk⟩
  · go_enter Try.func41, Try.ntmps41
    go_wp2
    refine wp_loop_rounds 1 ?_
    rw [rounds_succ]
    go_wp2
    go_ret
    exact ⟨ret_of (by simp), Span.refl _ _ _, .inl (by simp [marksI, nums])⟩
  · have HT := Lib.hid htk
    clear htk
    have hm0 : Whole w g 3 (marked (fun i : Nat => .int .i64 (q + (i : Int))) cs 0) := by rw [marked_zero]; exact hw
    have hgl := hw.lt
    go_enter Try.func41, Try.ntmps41
    go_wp2
    go_loopw [1, 5] (fun v i wr => ∃ k : Nat, k ≤ xs.length ∧ i = .int .i64 k ∧ v = .int .i64 (q + k) ∧ Whole wr g 3 (marked (fun i : Nat => .int .i64 (q + (i : Int))) cs k) ∧ Span lo hi w wr) (fun _ i _ => xs.length - (intOf i).toNat)
    case atStart => exact ⟨0, Nat.zero_le _, rfl, by simp, hm0, Span.refl _ _ _⟩
    case round =>
      obtain ⟨k, hk, rfl, rfl, hm, hs⟩ := hrel
      clear hm0 hw
      by_cases hlt : k < xs.length
      · obtain ⟨u, hu⟩ := marked_at (fun i : Nat => .int .i64 (q + (i : Int))) cs (show k < cs.size by omega)
        have hcell := (hm.cell k).trans hu
        have hfr := hm.open_ k
        have hset := hm.set_ k (.int .i64 (q + k))
        rw [marked_next (fun i : Nat => .int .i64 (q + (i : Int))) cs (show k < cs.size by omega)] at hset
        have hs' : Span lo hi w (wr.setCell ⟨g, k, none⟩ (.int .i64 (q + k))) :=
          hs.trans ⟨rfl, rfl, rfl, by simp [World.setCell], fun j _ hj => Below.heap_setCell _ _ _ _ (by show j ≠ g; omega)⟩
        clear hm hu hs
        have hq0 : (0 : Int) ≤ q + k := by omega
        go_wp2
        go_roundw
        case rel => exact ⟨k + 1, by omega, by go_num, by first | exact congrArg _ (by omega) | (simp; omega), hset, hs'⟩
        case measure => simp [intOf]; omega
      · have hkn : k = xs.length := by omega
        subst hkn
        go_wp2
        go_ret
        refine ⟨rfl, hs, .inr ⟨g, _, rfl, hlo, hhi, hm, ?_, ?_⟩⟩
        · simp [nums_len, marksI_len, marked]
        · rw [nums_len, marksI_len, marked_take _ _ _]
          simp [nums, marksI]

set_option maxHeartbeats 800000 in
theorem heldIntS_any (A : Option Addr) (n c : Nat) (q : Int) (w : World) (hA : Holds w A (nums (marksI q n))) (h0 : 0 ≤ q) (h1 : q ≤ 4611686018427387904) (hn : n ≤ 1048576) :
    Calls Try.prog 42 #[.slice A n c, .int .i64 q] w fun e w' => e = .returned (.int .i64 (q + n)) ∧ w = w' := by
  have hl := marksI_len q n
  have HL := Lib.hid hl
  clear hl
  go_enter Try.func42, Try.ntmps42
  go_wp2
  go_loop [1, 5] (fun v i => ∃ k : Nat, k ≤ n ∧ i = .int .i64 k ∧ v = .int .i64 (q + k)) (fun _ i => n - (intOf i).toNat)
  case atStart => exact ⟨0, Nat.zero_le _, rfl, by simp⟩
  case round =>
    obtain ⟨k, hk, rfl, rfl⟩ := hrel
    by_cases hlt : k < n
    · obtain ⟨b, o, rfl, hb, hc⟩ := hA.look (k := k) (by rw [nums_len, HL.out]; exact hlt)
      have hv : (nums (marksI q n))[k]'(by rw [nums_len, HL.out]; exact hlt) = .int .i64 (q + (k : Int)) := by simp [nums, marksI]
      rw [hv] at hc
      clear hv
      have hq0 : (0 : Int) ≤ q + k := by omega
      go_wp2
      go_round
      case rel => exact ⟨k + 1, by omega, by go_num, by first | exact congrArg _ (by omega) | (simp; omega)⟩
      case measure => simp [intOf]; omega
    · have hkn : k = n := by omega
      subst hkn
      go_wp2
      go_ret
      exact ⟨rfl, rfl⟩

end Go.Proofs.Ytcoagbcleccmmaa
