/-
  What is proved: contracts of the laws' own helpers for lists of lists of numbers: their size, their copy, their comparison. Conditions: the given lists are read as they lie; a copy is of at most 1,048,576 numbers.
  What is proved: contracts of the laws' copy and comparison of lists of lists of numbers. Conditions: the given lists are read as they lie; a copy is of at most 1,048,576 numbers.
  What is proved: lists of lists of the call's own, and contracts of the laws' marks on them. Conditions: the rows are new, open to writes and apart from each other; counts are small.
  What is proved: strings.Join in this program's numbers: the texts with a sign between them. Conditions: the texts lie below the call's own blocks; the whole has fewer than 2^47 bytes.
  What is proved: contracts of the laws' own helpers for clues and puzzles: their size, their copy, their comparison. Conditions: the given clues are read as they lie; a copy is of at most 1,048,576 clues.
  What is proved: contracts of the laws' own comparison and marks of clues and puzzles. Conditions: the clues are read as they lie; what is marked is a row of the call's own.
  What is proved: strconv.Itoa in this program's numbers: a number as its digits. Conditions: as each says.
  What is proved: what the texts of parties, nights, keeps, crews and puzzles are made of: numbers as digits, words with a sign between them. Conditions: none.
  What is proved: the table of powers of ten lies on in later worlds; a number as its digits, of the program and of the model, in this program's numbers. Conditions: the table lies as its initialiser lays it (the program); the number is not negative and below a million (the model).
  What is proved: contracts of PartyText, of the model and of the program. Conditions: the times are read as they lie; the table of powers of ten lies as told (the program).
  What is proved: the contract of the program's PartyText. Conditions: the times are read as they lie; the table of powers of ten lies as told.
  What is proved: words laid behind a beginning, one by one, with a sign between them. Conditions: none.
  What is proved: contracts of PuzzleText, of the model and of the program. Conditions: the clues are read as they lie; the table of powers of ten lies as told (the program).
  What is proved: PuzzleText whole, of the model and of the program. Conditions: the clues are read as they lie; the table of powers of ten lies as told (the program).
  What is proved: the law FnExactPuzzleText returns true at every argument, and leaves all that was there as it was. Conditions: the arguments are read as they lie.
-/
import Derived.Deep.RegionHeld3
import Derived.Shelf.Strconv.Itoa3
import Derived.Test.YtedkanncdkofaaaDoorProg
import Derived.Lib.ItoaMem
import Derived.Lib.Join
import Derived.Lib.SmallJoins
import Derived.Lib.AppendIntMem
import Derived.Laws.Concat
import Derived.Test.YtedkanncdkofaaaDoorJ1PuzzleText
set_option linter.unusedSimpArgs false
set_option linter.unusedVariables false
namespace Go.Proofs.YtedkanncdkofaaaDoor
open Go.RowKit

/-- One list among others: where it lies, its length, its room, its numbers. -/
structure RowV where
  A : Option Addr
  n : Nat
  c : Nat
  xs : List Int
def RowV.val (r : RowV) : Value := .slice r.A r.n r.c
def rowVals (rs : List RowV) : List Value := rs.map RowV.val
def rowNums (rs : List RowV) : List (List Int) := rs.map RowV.xs
theorem rowVals_len (rs : List RowV) : (rowVals rs).length = rs.length := by simp [rowVals]
theorem rowNums_len (rs : List RowV) : (rowNums rs).length = rs.length := by simp [rowNums]
def RowOk (w : World) (r : RowV) : Prop := Holds w r.A (nums r.xs) ∧ r.xs.length = r.n ∧ r.n ≤ 9223372036854775807
/-- From A on the world holds these lists. -/
def Grid (w : World) (A : Option Addr) (rs : List RowV) : Prop := Holds w A (rowVals rs) ∧ ∀ r ∈ rs, RowOk w r
theorem RowOk.below {w w' : World} {r : RowV} (h : RowOk w r) (hb : Below w.heap.size w w') : RowOk w' r := ⟨h.1.below hb, h.2⟩
theorem Grid.below {w w' : World} {A : Option Addr} {rs : List RowV} (h : Grid w A rs) (hb : Below w.heap.size w w') : Grid w' A rs := ⟨h.1.below hb, fun r hr => (h.2 r hr).below hb⟩
theorem Grid.alloc {w : World} {A : Option Addr} {rs : List RowV} (h : Grid w A rs) (o : Obj) : Grid (w.alloc o) A rs := h.below (below1 w o)
theorem Grid.drew {w : World} {A : Option Addr} {rs : List RowV} (h : Grid w A rs) : Grid w.drew A rs := h
theorem Grid.look {w : World} {A : Option Addr} {rs : List RowV} (h : Grid w A rs) {k : Nat} (hk : k < rs.length) :
    ∃ b o, A = some ⟨b, o, none⟩ ∧ b < w.heap.size ∧ w.cell? ⟨b, o + k, none⟩ = some (.slice rs[k].A rs[k].n rs[k].c) ∧ RowOk w rs[k] := by
  obtain ⟨b, o, hA, hb, hc⟩ := h.1.look (k := k) (by rw [rowVals_len]; exact hk)
  refine ⟨b, o, hA, hb, ?_, h.2 _ (List.getElem_mem hk)⟩
  rw [hc]
  simp [rowVals, RowV.val]

/-- The lengths of the first k lists together. -/
def part (rs : List RowV) (k : Nat) : Nat := ((rs.take k).map RowV.n).sum
/-- The length and all lengths together. -/
def total (rs : List RowV) : Nat := rs.length + part rs rs.length
theorem part_zero (rs : List RowV) : part rs 0 = 0 := rfl
theorem part_next {rs : List RowV} {k : Nat} (hk : k < rs.length) : part rs (k + 1) = part rs k + rs[k].n := by
  rw [part, part, List.take_succ_eq_append_getElem hk, List.map_append, List.sum_append]
  simp
theorem part_le {rs : List RowV} : ∀ {k : Nat}, k ≤ rs.length → ∀ {j : Nat}, j ≤ k → part rs j ≤ part rs k
  | 0, _, j, hj => by obtain rfl : j = 0 := by omega
                      exact Nat.le_refl _
  | k + 1, hk, j, hj => by
    rcases Nat.lt_or_ge j (k + 1) with h | h
    · have h1 := part_le (rs := rs) (k := k) (by omega) (j := j) (by omega)
      have h2 := part_next (rs := rs) (k := k) (by omega)
      omega
    · obtain rfl : j = k + 1 := by omega
      exact Nat.le_refl _
theorem total_row {rs : List RowV} {k : Nat} (hk : k < rs.length) : rs[k].n ≤ total rs := by
  have h1 := part_next hk
  have h2 := part_le (rs := rs) (Nat.le_refl _) (j := k + 1) (by omega)
  unfold total
  omega
theorem total_len (rs : List RowV) : rs.length ≤ total rs := by unfold total; omega
def totalLeft (rs : List RowV) (l : Int) : Int := if l < (total rs : Int) then -1 else l - (total rs : Int)
theorem totalLeft_no {rs : List RowV} {l : Int} {k : Nat} (hk : k ≤ rs.length) (h : l < (rs.length : Int) + (part rs k : Int)) : totalLeft rs l = -1 := by
  have h2 := part_le (rs := rs) (Nat.le_refl _) (j := k) hk
  rw [totalLeft, if_pos (by unfold total; omega)]
theorem totalLeft_yes {rs : List RowV} {l : Int} (h : (rs.length : Int) + (part rs rs.length : Int) ≤ l) : totalLeft rs l = l - ((rs.length : Int) + (part rs rs.length : Int)) := by
  rw [totalLeft, if_neg (by unfold total; omega)]
  unfold total
  omega

set_option maxHeartbeats 800000 in
theorem szIntSS_any (A : Option Addr) (n c : Nat) (rs : List RowV) (l : Int) (w : World) (hA : Grid w A rs) (hx : rs.length = n) (hn : n ≤ 9223372036854775807) (h0 : 0 ≤ l) (h1 : l ≤ 1048576) :
    Calls Tryd.prog 72 #[.slice A n c, .int .i64 l] w fun e w' => e = .returned (.int .i64 (totalLeft rs l)) ∧ w = w' := by
  subst hx
  by_cases h : l < rs.length
  · have h' : l - rs.length < 0 := by omega
    have HN := Lib.hid (totalLeft_no (rs := rs) (k := 0) (l := l) (Nat.zero_le _) (by rw [part_zero]; omega))
    go_enter Tryd.func72, Tryd.ntmps72
    go_wp2
    go_ret
    exact ⟨ret_of (by rw [HN.out]; rfl), rfl⟩
  · have h' : ¬ l - rs.length < 0 := by omega
    go_enter Tryd.func72, Tryd.ntmps72
    go_wp2
    go_loop [1, 5] (fun v i => ∃ (k : Nat) (x : Int), k ≤ rs.length ∧ i = .int .i64 k ∧ v = .int .i64 x ∧ 0 ≤ x ∧ x ≤ 1048576 ∧ x + (rs.length : Int) + (part rs k : Int) = l) (fun _ i => rs.length - (intOf i).toNat)
    case atStart => exact ⟨0, _, Nat.zero_le _, rfl, rfl, by omega, by omega, by rw [part_zero]; omega⟩
    case round =>
      obtain ⟨k, x, hk, rfl, rfl, hx0, hx1, hl⟩ := hrel
      by_cases hlt : k < rs.length
      · obtain ⟨b, o, rfl, hb, hc, hok⟩ := hA.look hlt
        have hp := part_next hlt
        by_cases hs : x < rs[k].n
        · have HN := Lib.hid (totalLeft_no (rs := rs) (k := k + 1) (l := l) (by omega) (by omega))
          clear hl hp h h'
          go_wp2_with (go_at_call 58; refine (szIntS_any _ _ _ _ _ hok.2.2 hx0 hx1).mono ?_; rintro e w' ⟨rfl, rfl⟩; rw [if_pos hs])
          go_ret
          exact ⟨ret_of (by rw [HN.out]; rfl), rfl⟩
        · have hl2 : x - rs[k].n + (rs.length : Int) + (part rs (k + 1) : Int) = l := by omega
          have HL := Lib.hid hl2
          have hx2 : 0 ≤ x - (rs[k].n : Int) := by omega
          have hx3 : x - (rs[k].n : Int) ≤ 1048576 := by omega
          clear hl hp h h' hl2
          go_wp2_with (go_at_call 58; refine (szIntS_any _ _ _ _ _ hok.2.2 hx0 hx1).mono ?_; rintro e w' ⟨rfl, rfl⟩; rw [if_neg hs])
          go_round
          case rel => exact ⟨k + 1, _, by omega, by go_num, rfl, hx2, hx3, HL.out⟩
          case measure => simp [intOf]; omega
      · have hkn : k = rs.length := by omega
        subst hkn
        have HN := Lib.hid (totalLeft_yes (rs := rs) (l := l) (by omega))
        have HV := Lib.hid (show x = l - ((rs.length : Int) + (part rs rs.length : Int)) by omega)
        clear hl h h'
        go_wp2
        go_ret
        exact ⟨ret_of (by rw [HN.out, ← HV.out]; rfl), rfl⟩
end Go.Proofs.YtedkanncdkofaaaDoor

namespace Go.Proofs.YtedkanncdkofaaaDoor
open Go.RowKit

/-- Lists of the call's own, each in blocks behind those of the one before. -/
def OwnRows (w : World) : Nat → Nat → List RowV → Prop
  | lo, hi, [] => lo ≤ hi
  | lo, hi, r :: rs => ∃ mid, lo ≤ mid ∧ Fresh w lo mid 3 r.A (nums r.xs) ∧ r.xs.length = r.n ∧ r.n ≤ 1048576 ∧ OwnRows w mid hi rs
theorem OwnRows.le {w : World} : ∀ {rs : List RowV} {lo hi : Nat}, OwnRows w lo hi rs → lo ≤ hi
  | [], _, _, h => h
  | _ :: _, _, _, ⟨_, h1, _, _, _, h2⟩ => Nat.le_trans h1 h2.le
theorem OwnRows.more {w : World} : ∀ {rs : List RowV} {lo hi hi' : Nat}, OwnRows w lo hi rs → hi ≤ hi' → OwnRows w lo hi' rs
  | [], _, _, _, h, h' => Nat.le_trans h h'
  | _ :: _, _, _, _, ⟨m, h1, hf, hl, hn, h2⟩, h' => ⟨m, h1, hf, hl, hn, h2.more h'⟩
theorem OwnRows.below {w w' : World} (hb : Below w.heap.size w w') : ∀ {rs : List RowV} {lo hi : Nat}, OwnRows w lo hi rs → OwnRows w' lo hi rs
  | [], _, _, h => h
  | _ :: _, _, _, ⟨m, h1, hf, hl, hn, h2⟩ => ⟨m, h1, hf.below hb, hl, hn, h2.below hb⟩
theorem OwnRows.set_out {w : World} {b o : Nat} {u : Value} : ∀ {rs : List RowV} {lo hi : Nat}, OwnRows w lo hi rs → (b < lo ∨ hi ≤ b) → OwnRows (w.setCell ⟨b, o, none⟩ u) lo hi rs
  | [], _, _, h, _ => h
  | _ :: _, _, _, ⟨m, h1, hf, hl, hn, h2⟩, hd => ⟨m, h1, hf.set_out (by have := h2.le; omega), hl, hn, h2.set_out (by omega)⟩
theorem OwnRows.snoc {w : World} {r : RowV} : ∀ {rs : List RowV} {lo mid hi : Nat}, OwnRows w lo mid rs → mid ≤ hi → Fresh w mid hi 3 r.A (nums r.xs) → r.xs.length = r.n → r.n ≤ 1048576 → OwnRows w lo hi (rs ++ [r])
  | [], _, _, hi, h, hm, hf, hl, hn => ⟨hi, Nat.le_trans h hm, hf.more h (Nat.le_refl _), hl, hn, Nat.le_refl _⟩
  | _ :: _, _, _, _, ⟨m, h1, hg, hk, ho, h2⟩, hm, hf, hl, hn => ⟨m, h1, hg, hk, ho, h2.snoc hm hf hl hn⟩
theorem OwnRows.ok {w : World} : ∀ {rs : List RowV} {lo hi : Nat}, OwnRows w lo hi rs → ∀ r ∈ rs, RowOk w r
  | [], _, _, _, _, hr => by cases hr
  | r :: rs, _, _, ⟨_, _, hf, hl, hn, h2⟩, x, hx => by
    rcases List.mem_cons.1 hx with rfl | hx
    · exact ⟨hf.holds, hl, by omega⟩
    · exact h2.ok x hx
/-- Lists of lists of the call's own: block g tells where they lie, the lists are behind it and before hi. -/
def OwnGrid (w : World) (g hi : Nat) (rs : List RowV) : Prop := Whole w g 22 (rowVals rs).toArray ∧ OwnRows w (g + 1) hi rs
theorem OwnGrid.grid {w : World} {g hi : Nat} {rs : List RowV} (h : OwnGrid w g hi rs) : Grid w (some ⟨g, 0, none⟩) rs :=
  ⟨h.1.holds, h.2.ok⟩
theorem OwnGrid.below {w w' : World} {g hi : Nat} {rs : List RowV} (h : OwnGrid w g hi rs) (hb : Below w.heap.size w w') : OwnGrid w' g hi rs := ⟨h.1.below hb, h.2.below hb⟩
theorem OwnGrid.alloc {w : World} {g hi : Nat} {rs : List RowV} (h : OwnGrid w g hi rs) (o : Obj) : OwnGrid (w.alloc o) g hi rs := h.below (below1 w o)
theorem OwnGrid.drew {w : World} {g hi : Nat} {rs : List RowV} (h : OwnGrid w g hi rs) : OwnGrid w.drew g hi rs := h.below ⟨rfl, rfl, rfl, Nat.le_refl _, fun _ _ => rfl⟩

/-- What stands in the copy's block behind k rounds. -/
def filledR (ws : List RowV) (n : Nat) : Array Value := (rowVals ws ++ List.replicate (n - ws.length) (Value.slice none 0 0)).toArray
theorem filledR_done {ws : List RowV} {n : Nat} (h : ws.length = n) : filledR ws n = (rowVals ws).toArray := by simp [filledR, h]
theorem filledR_at {ws : List RowV} {n : Nat} (h : ws.length < n) : (filledR ws n)[ws.length]? = some (.slice none 0 0) := by
  simp only [filledR, List.getElem?_toArray]
  rw [List.getElem?_append_right (by rw [rowVals_len]; omega)]
  simp [rowVals_len, List.getElem?_replicate]
  omega
theorem filledR_next {ws : List RowV} {n : Nat} (r : RowV) (h : ws.length < n) : (filledR ws n).setIfInBounds ws.length r.val = filledR (ws ++ [r]) n := by
  obtain ⟨m, hm⟩ : ∃ m, n - ws.length = m + 1 := ⟨n - ws.length - 1, by omega⟩
  have hm' : n - (ws ++ [r]).length = m := by simp; omega
  unfold filledR
  rw [hm, hm', List.replicate_succ]
  simp only [rowVals, List.map_append, List.map_cons, List.map_nil, List.append_assoc, List.singleton_append]
  rw [List.setIfInBounds_toArray]
  congr 1
  rw [List.set_append_right _ _ (by simp)]
  simp
theorem made_rows (n : Nat) : madeCells (Value.slice none 0 0).cells (n * 1) = (List.replicate n (Value.slice none 0 0)).toArray := by
  apply Array.ext_getElem?
  intro j
  simp [madeCells, Value.cells, Nat.mod_one, Array.getElem?_range]
  by_cases h : j < n <;> simp [h]
theorem info_row : (Tryd.prog.info? 22).map (fun i => (i.zero, i.size, i.bytes)) = some (some (.slice none 0 0), 1, 24) := by kernel_rfl

/-- What toIntSS hands back. -/
def GridPost (n : Nat) (rs : List RowV) (w : World) (e : Ending) (w' : World) : Prop :=
  ∃ (g : Nat) (ws : List RowV), e = .returned (.slice (some ⟨g, 0, none⟩) n n) ∧ w.heap.size ≤ g ∧ OwnGrid w' g w'.heap.size ws ∧ rowNums ws = rowNums rs ∧ ws.length = n ∧ Below w.heap.size w w'

theorem rowNums_next {ws rs : List RowV} {k : Nat} {r : RowV} (h : rowNums ws = (rowNums rs).take k) (hk : k < rs.length) (hr : r.xs = rs[k].xs) : rowNums (ws ++ [r]) = (rowNums rs).take (k + 1) := by
  rw [List.take_succ_eq_append_getElem (by rw [rowNums_len]; exact hk), ← h]
  simp [rowNums, hr]

set_option maxHeartbeats 800000 in
theorem toIntSS_any (A : Option Addr) (n c : Nat) (rs : List RowV) (w : World) (hA : Grid w A rs) (hx : rs.length = n) (ht : total rs ≤ 1048576) :
    Calls Tryd.prog 75 #[.slice A n c] w (GridPost n rs w) := by
  have hn : n ≤ 1048576 := by have := total_len rs; omega
  obtain ⟨i0, hi, hz0, hz1, hz2⟩ := info_parts info_row
  have hmk : ∀ W : World, (Instr.makeSlice 36 (.int .i64 (n : Int)) (.int .i64 (n : Int))).run Tryd.prog W = .ok (.slice (some ⟨W.heap.size, 0, none⟩) n n) (W.alloc (.cells (filledR [] n) 22)) := by
    intro W
    have h := run_make (P := Tryd.prog) W 36 22 i0 _ Tryd.underlying36 hi hz0 .i64 .i64 n n (by omega) (by omega) (by rw [hz2]; omega) (by omega)
    simp only [Int.toNat_natCast, hz1, made_rows] at h
    rw [h]
    simp [filledR, rowVals]
  have HX := Lib.hid hx
  clear hi hz0 hz1 hz2 hx
  go_enter Tryd.func75, Tryd.ntmps75
  go_wp2
  have h0 := Whole.fresh w 22 (filledR [] n)
  have hb0 : Below w.heap.size w (w.alloc (.cells (filledR [] n) 22)) := (Below.refl _ _).alloc (Nat.le_refl _) _
  go_loopw [4] (fun i wr => ∃ (k : Nat) (ws : List RowV), k ≤ n ∧ i = .int .i64 k ∧ ws.length = k ∧ Whole wr w.heap.size 22 (filledR ws n) ∧ Below w.heap.size w wr ∧ OwnRows wr (w.heap.size + 1) wr.heap.size ws ∧ rowNums ws = (rowNums rs).take k) (fun i _ => n - (intOf i).toNat)
  case atStart => exact ⟨0, [], Nat.zero_le _, rfl, rfl, h0, hb0, by simp [OwnRows], rfl⟩
  case round =>
    obtain ⟨k, ws, hk, rfl, hlen, hw, hb, hown, hnums⟩ := hrel
    clear hmk h0 hb0
    subst hlen
    have HNUM := Lib.hid hnums
    have hwl := hw.lt
    by_cases hlt : ws.length < n
    · have hkr : ws.length < rs.length := by have := HX.out; omega
      obtain ⟨b, o, rfl, hbl, hc, hok⟩ := (hA.below hb).look hkr
      have hsz : rs[ws.length].n ≤ 1048576 := Nat.le_trans (total_row hkr) ht
      clear hnums
      go_wp2_with fail
      refine (toIntS_own _ _ _ rs[ws.length].xs _ hok.1 hok.2.1 hsz).mono ?_
      rintro e w1 ⟨g1, rfl, hg1, hw1, hb1⟩
      have hF := Fresh.of_whole (lo := wr.heap.size) (hi := w1.heap.size) hw1 hg1 hw1.lt
      have hwz : wr.heap.size ≤ w1.heap.size := hb1.size
      have hown1 := (hown.below hb1).snoc (r := ⟨some ⟨g1, 0, none⟩, rs[ws.length].n, rs[ws.length].n, rs[ws.length].xs⟩) hwz hF hok.2.1 hsz
      have hown2 := hown1.set_out (b := w.heap.size) (o := ws.length) (u := .slice (some ⟨g1, 0, none⟩) rs[ws.length].n rs[ws.length].n) (.inl (by omega))
      have hw2 := hw.below hb1
      have hcell : w1.cell? ⟨w.heap.size, ws.length, none⟩ = some (.slice none 0 0) := (hw2.cell _).trans (filledR_at hlt)
      have hfr := hw2.open_ ws.length
      have hnext := hw2.set_ ws.length (.slice (some ⟨g1, 0, none⟩) rs[ws.length].n rs[ws.length].n)
      rw [show (Value.slice (some ⟨g1, 0, none⟩) rs[ws.length].n rs[ws.length].n) = RowV.val ⟨some ⟨g1, 0, none⟩, rs[ws.length].n, rs[ws.length].n, rs[ws.length].xs⟩ from rfl, filledR_next _ hlt] at hnext
      have hbw := below_then hb hb1 hb.size
      have HNX := Lib.hid (rowNums_next (r := ⟨some ⟨g1, 0, none⟩, rs[ws.length].n, rs[ws.length].n, rs[ws.length].xs⟩) HNUM.out hkr rfl)
      have HO := Lib.hid hown2
      have HN := Lib.hid hnext
      clear hown hown1 hown2 hnext hw hw2 hF hb hc hw1 hok
      go_wp2
      go_roundw
      case rel => exact ⟨ws.length + 1, _, by omega, by go_num, by simp, HN.out, hbw.setCell (Nat.le_refl _) _, by simpa [World.setCell] using HO.out, HNX.out⟩
      case measure => simp [intOf]; omega
    · have hkn : ws.length = n := by omega
      rw [filledR_done hkn] at hw
      have HK := Lib.hid hkn
      clear hnums hkn
      go_wp2
      go_ret
      exact ⟨w.heap.size, ws, rfl, Nat.le_refl _, ⟨hw, hown⟩, by rw [HNUM.out, List.take_of_length_le (by rw [rowNums_len, HX.out, HK.out]; exact Nat.le_refl _)], HK.out, hb⟩

/-- Two lists of one reading are the same; nothing but draws. -/
theorem eqIntS_drawn (A B : Option Addr) (n m c d : Nat) (xs ys : List Int) (w : World) (k : Nat) (hA : Holds (w.drewN k) A (nums xs)) (hB : Holds (w.drewN k) B (nums ys)) (hx : xs.length = n) (hy : ys.length = m) (he : xs = ys) (hn : n ≤ 9223372036854775807) :
    Calls Tryd.prog 65 #[.slice A n c, .slice B m d] (w.drewN k) fun e w'' => e = .returned (.bool true) ∧ ∃ q, w'' = w.drewN q :=
  Calls.quiet_of ((eqIntS_any A B n m c d xs ys _ hA hB hx hy hn (by subst he; omega)).mono fun _ _ ⟨h, q⟩ => ⟨by rw [h, sameInts_yes he], q⟩)

theorem rowNums_at {rs ss : List RowV} (h : rowNums rs = rowNums ss) {k : Nat} (hk : k < rs.length) (hk' : k < ss.length) : rs[k].xs = ss[k].xs := by
  have h1 := congrArg (fun l : List (List Int) => l[k]?) h
  simpa [rowNums, hk, hk'] using h1

set_option maxHeartbeats 800000 in
theorem eqIntSS_yes (A B : Option Addr) (n m c d : Nat) (rs ss : List RowV) (w : World) (hA : Grid w A rs) (hB : Grid w B ss) (he : rowNums rs = rowNums ss) (hx : rs.length = n) (hy : ss.length = m) (hn : n ≤ 9223372036854775807) :
    Calls Tryd.prog 77 #[.slice A n c, .slice B m d] w fun e w' => e = .returned (.bool true) ∧ Below w.heap.size w w' := by
  have hl : rs.length = ss.length := by rw [← rowNums_len rs, ← rowNums_len ss, he]
  subst hx hy
  have hl' : ((rs.length : Int) != (ss.length : Int)) = false := by simp [hl]
  have HL := Lib.hid hl
  have HE := Lib.hid he
  clear hl he
  go_enter Tryd.func77, Tryd.ntmps77
  go_wp2
  go_loopw [5] (fun i wr => ∃ k : Nat, k ≤ rs.length ∧ i = .int .i64 k ∧ Below w.heap.size w wr) (fun i _ => rs.length - (intOf i).toNat)
  case atStart => exact ⟨0, Nat.zero_le _, rfl, Below.refl _ _⟩
  case round =>
    obtain ⟨k, hk, rfl, hb⟩ := hrel
    by_cases hlt : k < rs.length
    · have hlt' : k < ss.length := by have := HL.out; omega
      obtain ⟨b, o, rfl, hbl, hc, hok⟩ := (hA.below hb).look hlt
      obtain ⟨b', o', rfl, hbl', hc', hok'⟩ := (hB.below hb).look hlt'
      have HV := Lib.hid (rowNums_at HE.out hlt hlt')
      go_wp2
      go_quiet ((go_at_call 65; exact eqIntS_drawn _ _ _ _ _ _ rs[k].xs ss[k].xs wr _ (hok.1.below (below_draws (Below.refl _ _) _)) (hok'.1.below (below_draws (Below.refl _ _) _)) hok.2.1 hok'.2.1 HV.out hok.2.2))
      go_wp2
      go_roundw
      case rel => exact ⟨k + 1, by omega, by go_num, below_draws hb _⟩
      case measure => simp [intOf]; omega
    · go_wp2
      go_ret
      exact ⟨rfl, hb⟩
end Go.Proofs.YtedkanncdkofaaaDoor

namespace Go.Proofs.YtedkanncdkofaaaDoor
open Go.RowKit

/-- The same place with other numbers. -/
def RowV.put (r : RowV) (ys : List Int) : RowV := ⟨r.A, r.n, r.c, ys⟩
/-- Rows of the call's own, each in a range of blocks that no other one meets. -/
def FreeRows (w : World) (ps : List (Nat × Nat)) (rs : List RowV) : Prop :=
  ps.length = rs.length ∧ (∀ (k : Nat) r p, rs[k]? = some r → ps[k]? = some p → Fresh w p.1 p.2 3 r.A (nums r.xs) ∧ r.xs.length = r.n ∧ r.n ≤ 1048576) ∧
    ∀ (i j : Nat) p p', i ≠ j → ps[i]? = some p → ps[j]? = some p' → p.2 ≤ p'.1 ∨ p'.2 ≤ p.1
/-- A list of lists of the call's own, all of it in blocks from lo on and before hi. -/
def FreeGrid (w : World) (lo hi : Nat) (A : Option Addr) (rs : List RowV) : Prop :=
  ∃ ps, FreeRows w ps rs ∧ (∀ p ∈ ps, lo ≤ p.1 ∧ p.2 ≤ hi) ∧ (rs = [] ∨ ∃ b o, A = some ⟨b, o, none⟩ ∧ b < w.heap.size ∧ lo ≤ b ∧ b < hi ∧ (∀ p ∈ ps, b < p.1 ∨ p.2 ≤ b) ∧ ∀ j u, (rowVals rs)[j]? = some u → w.cell? ⟨b, o + j, none⟩ = some u)
section
variable {w w' : World} {lo hi lo' hi' : Nat} {A : Option Addr} {rs : List RowV} {ps : List (Nat × Nat)}
theorem FreeRows.below (h : FreeRows w ps rs) (hb : Below w.heap.size w w') : FreeRows w' ps rs :=
  ⟨h.1, fun k r p hr hp => ⟨(h.2.1 k r p hr hp).1.below hb, (h.2.1 k r p hr hp).2⟩, h.2.2⟩
theorem FreeGrid.below (h : FreeGrid w lo hi A rs) (hb : Below w.heap.size w w') : FreeGrid w' lo hi A rs := by
  obtain ⟨ps, h1, h2, h3⟩ := h
  refine ⟨ps, h1.below hb, h2, ?_⟩
  rcases h3 with h3 | ⟨b, o, hA, hl, g1, g2, hd, hc⟩
  · exact .inl h3
  · exact .inr ⟨b, o, hA, Nat.lt_of_lt_of_le hl hb.size, g1, g2, hd, fun j u hu => (hb.cell (p := ⟨b, o + j, none⟩) hl).trans (hc j u hu)⟩
theorem FreeGrid.alloc (h : FreeGrid w lo hi A rs) (o : Obj) : FreeGrid (w.alloc o) lo hi A rs := h.below (below1 w o)
theorem FreeGrid.drew (h : FreeGrid w lo hi A rs) : FreeGrid w.drew lo hi A rs := h.below ⟨rfl, rfl, rfl, Nat.le_refl _, fun _ _ => rfl⟩
theorem FreeGrid.more (h : FreeGrid w lo hi A rs) (h1 : lo' ≤ lo) (h2 : hi ≤ hi') : FreeGrid w lo' hi' A rs := by
  obtain ⟨ps, g1, g2, g3⟩ := h
  refine ⟨ps, g1, fun p hp => ⟨Nat.le_trans h1 (g2 p hp).1, Nat.le_trans (g2 p hp).2 h2⟩, ?_⟩
  rcases g3 with g3 | ⟨b, o, hA, hl, k1, k2, hd, hc⟩
  · exact .inl g3
  · exact .inr ⟨b, o, hA, hl, Nat.le_trans h1 k1, Nat.lt_of_lt_of_le k2 h2, hd, hc⟩
theorem FreeGrid.grid (h : FreeGrid w lo hi A rs) : Grid w A rs := by
  obtain ⟨ps, g1, g2, g3⟩ := h
  refine ⟨?_, fun r hr => ?_⟩
  · rcases g3 with rfl | ⟨b, o, hA, hl, -, -, -, hc⟩
    · exact .inl rfl
    · exact .inr ⟨b, o, hA, hl, hc⟩
  · obtain ⟨k, hk, rfl⟩ := List.getElem_of_mem hr
    obtain ⟨a1, a2, a3⟩ := g1.2.1 k rs[k] (ps[k]'(by rw [g1.1]; exact hk)) (List.getElem?_eq_getElem hk) (List.getElem?_eq_getElem (by rw [g1.1]; exact hk))
    exact ⟨a1.holds, a2, by omega⟩
theorem Span.wider (h : Span lo' hi' w w') (h1 : lo ≤ lo') (h2 : hi' ≤ hi) : Span lo hi w w' := ⟨h.os, h.tape, h.output, h.size, fun k hk hd => h.block k hk (by omega)⟩
theorem Span.cell (h : Span lo hi w w') {p : Addr} (hl : p.block < w.heap.size) (hg : p.block < lo ∨ hi ≤ p.block) : w'.cell? p = w.cell? p := by
  unfold World.cell?
  rw [h.block p.block hl hg]
theorem Span.freeRows (h : Span lo hi w w') (hf : FreeRows w ps rs) (hd : ∀ p ∈ ps, p.2 ≤ lo ∨ hi ≤ p.1) : FreeRows w' ps rs :=
  ⟨hf.1, fun k r p hr hp => ⟨h.fresh (hf.2.1 k r p hr hp).1 (hd p (List.mem_of_getElem? hp)), (hf.2.1 k r p hr hp).2⟩, hf.2.2⟩
theorem Span.freeGrid (h : Span lo hi w w') (hf : FreeGrid w lo' hi' A rs) (hd : hi' ≤ lo ∨ hi ≤ lo') : FreeGrid w' lo' hi' A rs := by
  obtain ⟨ps, g1, g2, g3⟩ := hf
  refine ⟨ps, h.freeRows g1 (fun p hp => by have := g2 p hp; omega), g2, ?_⟩
  rcases g3 with g3 | ⟨b, o, hA, hl, k1, k2, hdd, hc⟩
  · exact .inl g3
  · exact .inr ⟨b, o, hA, Nat.lt_of_lt_of_le hl h.size, k1, k2, hdd, fun j u hu => (h.cell (p := ⟨b, o + j, none⟩) hl (by show b < lo ∨ hi ≤ b; omega)).trans (hc j u hu)⟩
/-- Behind a row that has turned: the others stand as they were. -/
theorem FreeRows.turn (h : FreeRows w ps rs) {k : Nat} {r : RowV} {p : Nat × Nat} (hr : rs[k]? = some r) (hp : ps[k]? = some p) (hs : Span p.1 p.2 w w') {ys : List Int} (hf : Fresh w' p.1 p.2 3 r.A (nums ys)) (hy : ys.length = r.n) : FreeRows w' ps (rs.set k (r.put ys)) := by
  refine ⟨by simp [h.1], fun i r' p' hi hp' => ?_, h.2.2⟩
  rw [List.getElem?_set] at hi
  by_cases he : k = i
  · subst he
    obtain rfl : p = p' := by rw [hp] at hp'; exact Option.some.inj hp'
    rw [if_pos rfl] at hi
    split at hi
    · obtain rfl := Option.some.inj hi
      exact ⟨hf, hy, (h.2.1 k r p hr hp).2.2⟩
    · cases hi
  · rw [if_neg he] at hi
    exact ⟨hs.fresh (h.2.1 i r' p' hi hp').1 (by have := h.2.2 i k p' p (fun e => he e.symm) hp' hp; omega), (h.2.1 i r' p' hi hp').2⟩
theorem FreeGrid.turn (h : FreeGrid w lo hi A rs) {k : Nat} (hk : k < rs.length) : ∃ a b, lo ≤ a ∧ b ≤ hi ∧ Fresh w a b 3 rs[k].A (nums rs[k].xs) ∧ rs[k].xs.length = rs[k].n ∧ rs[k].n ≤ 1048576 ∧
    ∀ w' ys, Span a b w w' → Fresh w' a b 3 rs[k].A (nums ys) → ys.length = rs[k].n → FreeGrid w' lo hi A (rs.set k (rs[k].put ys)) := by
  obtain ⟨ps, g1, g2, g3⟩ := h
  have hk' : k < ps.length := by rw [g1.1]; exact hk
  have e1 : rs[k]? = some rs[k] := List.getElem?_eq_getElem hk
  have e2 : ps[k]? = some ps[k] := List.getElem?_eq_getElem hk'
  have hb := g2 _ (List.getElem_mem hk')
  obtain ⟨f1, f2, f3⟩ := g1.2.1 k _ _ e1 e2
  refine ⟨ps[k].1, ps[k].2, hb.1, hb.2, f1, f2, f3, fun w' ys hs hf hy => ⟨ps, g1.turn e1 e2 hs hf hy, g2, ?_⟩⟩
  rcases g3 with g3 | ⟨b, o, hA, hl, k1, k2, hdd, hc⟩
  · subst g3; simp at hk
  · refine .inr ⟨b, o, hA, Nat.lt_of_lt_of_le hl hs.size, k1, k2, hdd, fun j u hu => (hs.cell (p := ⟨b, o + j, none⟩) hl (by have := hdd _ (List.getElem_mem hk'); show b < ps[k].1 ∨ ps[k].2 ≤ b; omega)).trans (hc j u ?_)⟩
    rw [← hu]
    simp only [rowVals, List.getElem?_map, List.getElem?_set]
    by_cases he : k = j
    · subst he
      rw [if_pos rfl, if_pos hk, e1]
      rfl
    · rw [if_neg he]
end
/-- The ranges of lists that lie one behind the other. -/
theorem OwnRows.free {w : World} : ∀ {rs : List RowV} {lo hi : Nat}, OwnRows w lo hi rs → ∃ ps, FreeRows w ps rs ∧ ∀ p ∈ ps, lo ≤ p.1 ∧ p.2 ≤ hi
  | [], _, _, _ => ⟨[], ⟨rfl, fun k r p hr => by simp at hr, fun i j p p' _ hi => by simp at hi⟩, fun p hp => by cases hp⟩
  | r :: rs, lo, hi, ⟨mid, h1, hf, hl, hn, h2⟩ => by
    obtain ⟨ps, g, hg⟩ := h2.free
    have hle := h2.le
    refine ⟨(lo, mid) :: ps, ⟨by simp [g.1], fun k r' p hr hp => ?_, fun i j p p' hij hi hj => ?_⟩, fun p hp => ?_⟩
    · cases k with
      | zero => simp only [List.getElem?_cons_zero, Option.some.injEq] at hr hp; subst hr hp; exact ⟨hf, hl, hn⟩
      | succ k => simp only [List.getElem?_cons_succ] at hr hp; exact g.2.1 k r' p hr hp
    · cases i with
      | zero =>
        cases j with
        | zero => exact absurd rfl hij
        | succ j =>
          simp only [List.getElem?_cons_zero, List.getElem?_cons_succ, Option.some.injEq] at hi hj
          subst hi
          exact .inl (hg p' (List.mem_of_getElem? hj)).1
      | succ i =>
        cases j with
        | zero =>
          simp only [List.getElem?_cons_zero, List.getElem?_cons_succ, Option.some.injEq] at hi hj
          subst hj
          exact .inr (hg p (List.mem_of_getElem? hi)).1
        | succ j =>
          simp only [List.getElem?_cons_succ] at hi hj
          exact g.2.2 i j p p' (by omega) hi hj
    · rcases List.mem_cons.1 hp with rfl | hp
      · exact ⟨Nat.le_refl _, hle⟩
      · exact ⟨Nat.le_trans h1 (hg p hp).1, (hg p hp).2⟩
theorem OwnGrid.free {w : World} {g hi : Nat} {rs : List RowV} (h : OwnGrid w g hi rs) : FreeGrid w g hi (some ⟨g, 0, none⟩) rs := by
  obtain ⟨ps, h1, h2⟩ := h.2.free
  refine ⟨ps, h1, fun p hp => ⟨by have := (h2 p hp).1; omega, (h2 p hp).2⟩, .inr ⟨g, 0, rfl, h.1.lt, Nat.le_refl _, h.2.le, fun p hp => .inl (h2 p hp).1, fun j u hu => ?_⟩⟩
  rw [Nat.zero_add, h.1.cell j]
  simpa using hu

theorem part_sum {rs : List RowV} : part rs rs.length = (rs.map RowV.n).sum := by simp [part]
theorem part_nums {w : World} {A B : Option Addr} {rs ss : List RowV} (hA : Grid w A rs) {w' : World} (hB : Grid w' B ss) (h : rowNums rs = rowNums ss) : part rs rs.length = part ss ss.length := by
  rw [part_sum, part_sum]
  have e : ∀ {u : World} {C : Option Addr} {ts : List RowV}, Grid u C ts → ts.map RowV.n = (rowNums ts).map List.length := by
    intro u C ts hC
    rw [rowNums, List.map_map]
    exact List.map_congr_left fun r hr => (hC.2 r hr).2.1.symm
  rw [e hA, e hB, h]
theorem part_total (rs : List RowV) : part rs rs.length ≤ total rs := by unfold total; omega

/-- The first k lists overwritten by a count from q on. -/
def markTo (q : Int) (rs : List RowV) (k : Nat) : List RowV := (List.range rs.length).map fun j => if j < k then (rs.getD j ⟨none, 0, 0, []⟩).put (marksI (q + part rs j) (rs.getD j ⟨none, 0, 0, []⟩).n) else rs.getD j ⟨none, 0, 0, []⟩
theorem markTo_len (q : Int) (rs : List RowV) (k : Nat) : (markTo q rs k).length = rs.length := by simp [markTo]
theorem markTo_zero (q : Int) (rs : List RowV) : markTo q rs 0 = rs := by
  apply List.ext_getElem
  · simp [markTo]
  · intro i h1 h2
    simp [markTo, h2]
theorem markTo_at (q : Int) (rs : List RowV) (k i : Nat) (h : i < (markTo q rs k).length) : (markTo q rs k)[i] = if i < k then (rs[i]'(by rw [markTo_len] at h; exact h)).put (marksI (q + part rs i) (rs[i]'(by rw [markTo_len] at h; exact h)).n) else rs[i]'(by rw [markTo_len] at h; exact h) := by
  have h' : i < rs.length := by rw [markTo_len] at h; exact h
  simp [markTo, h']
theorem markTo_here (q : Int) (rs : List RowV) (k : Nat) (h : k < (markTo q rs k).length) : (markTo q rs k)[k] = rs[k]'(by rw [markTo_len] at h; exact h) := by
  rw [markTo_at, if_neg (by omega)]
theorem markTo_next (q : Int) (rs : List RowV) {k : Nat} (h : k < rs.length) : (markTo q rs k).set k (rs[k].put (marksI (q + part rs k) rs[k].n)) = markTo q rs (k + 1) := by
  apply List.ext_getElem
  · simp [markTo_len]
  · intro i h1 h2
    rw [List.getElem_set]
    by_cases he : k = i
    · subst he
      rw [if_pos rfl, markTo_at, if_pos (by omega)]
    · rw [if_neg he, markTo_at, markTo_at]
      by_cases hi : i < k
      · rw [if_pos hi, if_pos (by omega)]
      · rw [if_neg hi, if_neg (by omega)]

set_option maxHeartbeats 800000 in
theorem markIntSS_any (A : Option Addr) (n c lo hi : Nat) (rs : List RowV) (q : Int) (w : World) (hf : FreeGrid w lo hi A rs) (hx : rs.length = n) (h0 : 0 ≤ q) (h1 : q ≤ 2305843009213693952) (hn : n ≤ 1048576) (hp : part rs rs.length ≤ 1048576) :
    Calls Tryd.prog 82 #[.slice A n c, .int .i64 q] w fun e w' => e = .returned (.int .i64 (q + (part rs rs.length : Nat))) ∧ Span lo hi w w' ∧ FreeGrid w' lo hi A (markTo q rs rs.length) := by
  have HX := Lib.hid hx
  have HM : Hid (FreeGrid w lo hi A (markTo q rs 0)) := by show FreeGrid _ _ _ _ _; rw [markTo_zero]; exact hf
  clear hx hf
  go_enter Tryd.func82, Tryd.ntmps82
  go_wp2
  go_loopw [1, 5] (fun v i wr => ∃ k : Nat, k ≤ n ∧ i = .int .i64 k ∧ v = .int .i64 (q + part rs k) ∧ FreeGrid wr lo hi A (markTo q rs k) ∧ Span lo hi w wr) (fun _ i _ => n - (intOf i).toNat)
  case atStart => exact ⟨0, Nat.zero_le _, rfl, by simp [part_zero], HM.out, Span.refl _ _ _⟩
  case round =>
    obtain ⟨k, hk, rfl, rfl, hm, hs⟩ := hrel
    clear HM
    by_cases hlt : k < n
    · have hkr : k < rs.length := by have := HX.out; omega
      have hkm : k < (markTo q rs k).length := by rw [markTo_len]; exact hkr
      obtain ⟨b, o, rfl, hb, hc, hok⟩ := hm.grid.look hkm
      obtain ⟨lo1, hi1, l1, l2, hf, hl, hs1, hturn⟩ := hm.turn hkm
      have hpl := part_le (rs := rs) (Nat.le_refl _) (j := k) (by omega)
      have hpn := part_next hkr
      have HPN := Lib.hid hpn
      have HT := Lib.hid hturn
      have HN := Lib.hid (markTo_next q rs hkr)
      have HF := Lib.hid hf
      have HL := Lib.hid hl
      have HE := Lib.hid (markTo_here q rs k hkm)
      rw [HE.out] at hc
      rw [HE.out] at hs1
      have HS := Lib.hid hs
      clear hm hf hl hturn hok hpn hs
      have hq0 : (0 : Int) ≤ q + part rs k := by omega
      have hq1 : q + (part rs k : Int) ≤ 4611686018427387904 := by omega
      go_wp2_with fail
      refine (markIntS_any rs[k].A rs[k].n _ lo1 hi1 (nums rs[k].xs) _ _ (by rw [← HE.out]; exact HF.out) (by rw [nums_len, ← HE.out]; exact HL.out) hq0 hq1 hs1).mono ?_
      rintro e w1 ⟨rfl, hs2, hf2⟩
      have hsz : Span lo hi w w1 := HS.out.trans (hs2.wider l1 l2)
      have HG : Hid (FreeGrid w1 lo hi (some ⟨b, o, none⟩) (markTo q rs (k + 1))) := by
        show FreeGrid _ _ _ _ _
        rw [← HN.out]
        have h := HT.out w1 (marksI (q + part rs k) rs[k].n) hs2 (by rw [HE.out]; exact hf2) (by rw [marksI_len, HE.out])
        rw [HE.out] at h
        exact h
      clear hs2 hf2 HT
      go_wp2
      go_roundw
      case rel => exact ⟨k + 1, by omega, by go_num, by rw [HPN.out]; first | exact congrArg _ (by omega) | (simp; omega), HG.out, hsz⟩
      case measure => simp [intOf]; omega
    · have hkn : k = rs.length := by have := HX.out; omega
      subst hkn
      go_wp2
      go_ret
      exact ⟨rfl, hs, hm⟩

set_option maxHeartbeats 800000 in
theorem heldIntSS_any (A : Option Addr) (n c : Nat) (rs : List RowV) (q : Int) (w : World) (hA : Grid w A (markTo q rs rs.length)) (hx : rs.length = n) (h0 : 0 ≤ q) (h1 : q ≤ 2305843009213693952) (hn : n ≤ 1048576) (hp : part rs rs.length ≤ 1048576) :
    Calls Tryd.prog 83 #[.slice A n c, .int .i64 q] w fun e w' => e = .returned (.int .i64 (q + (part rs rs.length : Nat))) ∧ Below w.heap.size w w' := by
  have HX := Lib.hid hx
  clear hx
  go_enter Tryd.func83, Tryd.ntmps83
  go_wp2
  go_loop [1, 5] (fun v i => ∃ k : Nat, k ≤ n ∧ i = .int .i64 k ∧ v = .int .i64 (q + part rs k)) (fun _ i => n - (intOf i).toNat)
  case atStart => exact ⟨0, Nat.zero_le _, rfl, by simp [part_zero]⟩
  case round =>
    obtain ⟨k, hk, rfl, rfl⟩ := hrel
    by_cases hlt : k < n
    · have hkr : k < rs.length := by have := HX.out; omega
      have hkm : k < (markTo q rs rs.length).length := by rw [markTo_len]; exact hkr
      obtain ⟨b, o, rfl, hb, hc, hok⟩ := hA.look hkm
      have he : (markTo q rs rs.length)[k] = (rs[k].put (marksI (q + part rs k) rs[k].n)) := by rw [markTo_at, if_pos hkr]
      rw [he] at hc hok
      have hpl := part_le (rs := rs) (Nat.le_refl _) (j := k + 1) (by omega)
      have hpn := part_next hkr
      have hs1 : rs[k].n ≤ 1048576 := by omega
      have HPN := Lib.hid hpn
      have HOK := Lib.hid hok.1
      have hq0 : (0 : Int) ≤ q + part rs k := by omega
      have hq1 : q + (part rs k : Int) ≤ 4611686018427387904 := by omega
      have hq2 : (0 : Int) ≤ q + part rs k + rs[k].n := by omega
      clear he hok hpn
      simp only [RowV.put] at hc
      go_wp2_with fail
      refine (heldIntS_any rs[k].A rs[k].n _ _ _ HOK.out hq0 hq1 hs1).mono ?_
      rintro e w1 ⟨rfl, rfl⟩
      go_wp2
      go_round
      case rel => exact ⟨k + 1, by omega, by go_num, by rw [HPN.out]; first | exact congrArg _ (by omega) | (simp; omega)⟩
      case measure => simp [intOf]; omega
    · have hkn : k = rs.length := by have := HX.out; omega
      subst hkn
      go_wp2
      go_ret
      exact ⟨rfl, Below.refl _ _⟩
end Go.Proofs.YtedkanncdkofaaaDoor

namespace Go.Proofs.YtedkanncdkofaaaDoor
open Go.RowKit

/-- A text as a string. -/
abbrev strOf (l : List UInt8) : ByteArray := ⟨l.toArray⟩
/-- Texts in cells. -/
def strs (xs : List (List UInt8)) : List Value := xs.map fun x => .string (strOf x)
theorem strs_len (xs : List (List UInt8)) : (strs xs).length = xs.length := by simp [strs]
theorem strOf_size (l : List UInt8) : (strOf l).size = l.length := by simp [ByteArray.size]
theorem strOf_list (l : List UInt8) : (strOf l).data.toList = l := by simp
/-- What a call hands back that makes a text. -/
def StrPost (l : List UInt8) (w : World) (e : Ending) (w' : World) : Prop := e = .returned (.string (strOf l)) ∧ Below w.heap.size w w'

set_option maxRecDepth 100000 in
theorem join_none (a : Option Addr) (c : Nat) (sep : List UInt8) (w : World) :
    Calls Tryd.prog 64 #[.slice a 0 c, .string (strOf sep)] w (StrPost [] w) := by
  go_enter Tryd.func64, Tryd.ntmps64
  go_wp2
  go_ret
  exact ⟨rfl, Below.refl _ _⟩
set_option maxRecDepth 100000 in
theorem join_one (bk o c : Nat) (x sep : List UInt8) (w : World) (hc : w.cell? ⟨bk, o, none⟩ = some (.string (strOf x))) :
    Calls Tryd.prog 64 #[.slice (some ⟨bk, o, none⟩) 1 c, .string (strOf sep)] w (StrPost x w) := by
  go_enter Tryd.func64, Tryd.ntmps64
  go_wp2
  go_ret
  exact ⟨rfl, Below.refl _ _⟩

/-- What a builder holds behind k rounds of Join's second loop. -/
def joinUp (x : List UInt8) (r : List (List UInt8)) (sep : List UInt8) (k : Nat) : List UInt8 := x ++ Lib.joinTail sep (r.take k)
theorem joinUp_end (x : List UInt8) (r : List (List UInt8)) (sep : List UInt8) : joinUp x r sep r.length = Lib.join (x :: r) sep := by
  rw [joinUp, List.take_of_length_le (Nat.le_refl _), Lib.join_cons]
theorem joinUp_next (x : List UInt8) (r : List (List UInt8)) (sep : List UInt8) (k : Nat) (y : List UInt8) (h : r[k]? = some y) : joinUp x r sep (k + 1) = joinUp x r sep k ++ sep ++ y := by
  rw [joinUp, Lib.joinTail_take_succ sep r k y h, joinUp]
  simp [List.append_assoc]
theorem joinUp_le (x : List UInt8) (r : List (List UInt8)) (sep : List UInt8) (k : Nat) : (joinUp x r sep k).length ≤ (Lib.join (x :: r) sep).length := by
  rw [joinUp, Lib.join_cons, List.length_append, List.length_append]
  have := Lib.joinTail_take_le sep r k
  omega

set_option maxHeartbeats 4000000 in
set_option maxRecDepth 100000 in
theorem join_many (bk o c n : Nat) (x0 : List UInt8) (r : List (List UInt8)) (s : UInt8) (w : World)
    (hcells : ∀ (j : Nat) x, (x0 :: r)[j]? = some x → w.cell? ⟨bk, o + j, none⟩ = some (.string (strOf x)))
    (hbk : bk < w.heap.size) (hn : n = r.length + 1) (h2 : 2 ≤ n) (hN : n ≤ 1048576) (hcap : n ≤ c)
    (hlen : (Lib.join (x0 :: r) [s]).length ≤ 1073741824) :
    Calls Tryd.prog 64 #[.slice (some ⟨bk, o, none⟩) n c, .string (strOf [s])] w (StrPost (Lib.join (x0 :: r) [s]) w) := by
  have HC := Lib.hid hcells
  have HLE := Lib.hid (fun k => Nat.le_trans (joinUp_le x0 r [s] k) hlen)
  have hsum : Lib.lens (x0 :: r) + (n - 1) ≤ 1073741824 := by
    have := Lib.join_length x0 r [s]
    rw [this] at hlen
    simp only [List.length_singleton, Nat.one_mul] at hlen
    omega
  have HS := Lib.hid hsum
  have HN := Lib.hid hn
  have hdv : ¬ (9223372036854775807 / ((n : Int) - 1) ≤ (1 : Int)) := by
    intro h
    have h3 : 9223372036854775807 / ((n : Int) - 1) * ((n : Int) - 1) + 9223372036854775807 % ((n : Int) - 1) = 9223372036854775807 := Int.ediv_mul_add_emod _ _
    have h4 : 9223372036854775807 % ((n : Int) - 1) < (n : Int) - 1 := Int.emod_lt_of_pos _ (by omega)
    have h5 : 9223372036854775807 / ((n : Int) - 1) * ((n : Int) - 1) ≤ 1 * ((n : Int) - 1) := Int.mul_le_mul_of_nonneg_right h (by omega)
    omega
  have hne0 : ((n : Int) == 0) = false := beq_eq_false_iff_ne.2 (by omega)
  have hne1 : ((n : Int) == 1) = false := beq_eq_false_iff_ne.2 (by omega)
  have hsz : ((strOf [s]).size : Int) = 1 := rfl
  clear hcells hlen hsum hn
  go_enter Tryd.func64, Tryd.ntmps64
  go_wp2_with fail
  go_loop [5, 41] (fun v i => ∃ k : Nat, k ≤ n ∧ i = .int .i64 k ∧ v = .int .i64 ((n : Int) - 1 + (Lib.lens ((x0 :: r).take k) : Nat))) (fun _ i => n - (intOf i).toNat)
  case atStart => exact ⟨0, Nat.zero_le _, rfl, by simp [Lib.lens]⟩
  case round =>
    obtain ⟨k, hk, rfl, rfl⟩ := hrel
    by_cases hkn : k < n
    · obtain ⟨x, hx⟩ : ∃ x, (x0 :: r)[k]? = some x := ⟨_, List.getElem?_eq_getElem (by have := HN.out; simp; omega)⟩
      have hc := HC.out k x hx
      have hstep := Lib.lens_take_succ (x0 :: r) k x hx
      have hbound : Lib.lens ((x0 :: r).take (k + 1)) ≤ Lib.lens (x0 :: r) := Lib.lens_take_le _ _
      have hS := HS.out
      have hxs : ((strOf x).size : Int) = (x.length : Nat) := by rw [strOf_size]
      generalize hA1 : Lib.lens ((x0 :: r).take (k + 1)) = A1 at hstep hbound
      generalize Lib.lens ((x0 :: r).take k) = A0 at hstep
      generalize Lib.lens (x0 :: r) = A2 at hbound hS
      have HA1 := Lib.hid hA1
      have HX := Lib.hid hx
      clear hA1 hx
      go_wp2
      go_round
      case rel => exact ⟨k + 1, by omega, by go_num, by rw [HA1.out]; refine congrArg _ ?_; omega⟩
      case measure => simp [intOf]; omega
    · obtain rfl : k = n := by omega
      have hall : (x0 :: r).take k = x0 :: r := List.take_of_length_le (by have := HN.out; simp; omega)
      have hS := HS.out
      rw [hall]
      clear hall
      obtain ⟨T, hT⟩ : ∃ T : Nat, T = k - 1 + Lib.lens (x0 :: r) := ⟨_, rfl⟩
      have hTT : ((k : Int) - 1 + (Lib.lens (x0 :: r) : Nat)) = (T : Int) := by omega
      rw [hTT]
      have HT := Lib.hid (show T ≤ 1073741824 by omega)
      clear hTT hT hS
      go_wp2_with fail
      refine (growB_fresh w.heap.size w.heap.size T _ (Nat.le_refl _) (heap_alloc_new w _) (by simp) (by have := HT.out; omega)).mono ?_
      rintro e w1 ⟨rfl, h1, hb1⟩
      have hb1' : Below w.heap.size w w1 := ((Below.refl w.heap.size w).alloc (Nat.le_refl _) _).trans hb1
      have hc0 : w1.cell? ⟨bk, o, none⟩ = some (.string (strOf x0)) := by
        rw [hb1'.cell (p := ⟨bk, o, none⟩) hbk]
        exact HC.out 0 x0 rfl
      have H1 := Lib.hid h1
      have Hb1 := Lib.hid hb1'
      have hBw1 := hb1'.size
      clear h1 hb1 hb1'
      go_wp2_with fail
      refine (writeString_any w.heap.size w.heap.size [] (strOf x0) w1 H1.out (by have := HLE.out 0; rw [strOf_size]; simp [joinUp, Lib.joinTail] at this ⊢; omega) hBw1).mono ?_
      rintro e w2 ⟨rfl, h2', hb2⟩
      have hstart : ([] : List Value) ++ Lib.strCells (strOf x0) = Lib.byteCells (joinUp x0 r [s] 0) := by
        rw [Lib.strCells_eq, strOf_list]
        simp [joinUp, Lib.joinTail]
      rw [hstart] at h2'
      have H2 := Lib.hid h2'
      have Hb2 := Lib.hid (Hb1.out.trans hb2)
      have hBw2 := Hb2.out.size
      clear h2' hb2 hstart hc0
      go_wp2_with fail
      have HR := Lib.hid (show r.length = k - 1 by have := HN.out; omega)
      go_loopw [65] (fun i wr => ∃ j : Nat, j + 1 ≤ k ∧ i = .int .i64 j ∧ BuiltS w.heap.size w.heap.size (Lib.byteCells (joinUp x0 r [s] j)) wr ∧ Below w.heap.size w wr) (fun i _ => k - 1 - (intOf i).toNat)
      case atStart => exact ⟨0, by omega, rfl, H2.out, Hb2.out⟩
      case round =>
        obtain ⟨j, hj, rfl, hB, hW⟩ := hrel
        have hBw := hW.size
        by_cases hjr : j < k - 1
        · obtain ⟨y, hy⟩ : ∃ y, r[j]? = some y := ⟨_, List.getElem?_eq_getElem (by have := HR.out; omega)⟩
          have hcy : wr.cell? ⟨bk, o + 1 + j, none⟩ = some (.string (strOf y)) := by
            rw [hW.cell (p := ⟨bk, o + 1 + j, none⟩) hbk, show o + 1 + j = o + (j + 1) by omega]
            exact HC.out (j + 1) y (by simpa using hy)
          have hnx := joinUp_next x0 r [s] j y hy
          have hl1 := HLE.out (j + 1)
          rw [hnx, List.length_append, List.length_append] at hl1
          simp only [List.length_singleton] at hl1
          have hcs : Lib.byteCells (joinUp x0 r [s] j) ++ Lib.strCells (strOf [s]) ++ Lib.strCells (strOf y) = Lib.byteCells (joinUp x0 r [s] (j + 1)) := by
            rw [hnx, Lib.strCells_eq, Lib.strCells_eq, strOf_list, strOf_list, ← Lib.byteCells_append, ← Lib.byteCells_append]
          have HCS := Lib.hid hcs
          have HL := Lib.hid (show (Lib.byteCells (joinUp x0 r [s] j)).length + 1 + y.length ≤ 1073741824 by rw [Lib.byteCells_length]; omega)
          have hB' := Lib.hid hB
          have hW' := Lib.hid hW
          clear hnx hcs hl1 hy hB hW
          go_wp2_with fail
          refine (writeString_any w.heap.size w.heap.size _ (strOf [s]) wr hB'.out (by have := HL.out; rw [strOf_size]; simp; omega) hBw).mono ?_
          rintro e w3 ⟨rfl, h3, hb3⟩
          have H3 := Lib.hid h3
          have Hb3 := Lib.hid (hW'.out.trans hb3)
          have hBw3 := Hb3.out.size
          clear h3 hb3
          go_wp2_with fail
          refine (writeString_any w.heap.size w.heap.size _ (strOf y) w3 H3.out (by have := HL.out; rw [List.length_append, Lib.strCells_length, strOf_size, strOf_size]; simp; omega) hBw3).mono ?_
          rintro e w4 ⟨rfl, h4, hb4⟩
          rw [HCS.out] at h4
          have H4 := Lib.hid h4
          have Hb4 := Lib.hid (Hb3.out.trans hb4)
          clear h4 hb4
          go_wp2
          go_roundw
          case rel => exact ⟨j + 1, by omega, by go_num, H4.out, Hb4.out⟩
          case measure => simp [intOf]; omega
        · obtain rfl : j = k - 1 := by omega
          have hend := joinUp_end x0 r [s]
          rw [HR.out] at hend
          rw [hend] at hB
          have hB' := Lib.hid hB
          have hW' := Lib.hid hW
          clear hB hW hend
          go_wp2_with fail
          refine (Tryd.Builder_String_any w.heap.size w.heap.size _ wr hB'.out hBw).mono ?_
          rintro e w5 ⟨rfl, hb5⟩
          have Hb5 := Lib.hid (hW'.out.trans hb5)
          clear hb5
          go_wp2
          go_ret
          exact ⟨rfl, Hb5.out⟩

/-- strings.Join at whatever number of texts, with a sign of one byte. -/
theorem join_any (A : Option Addr) (n c : Nat) (xs : List (List UInt8)) (s : UInt8) (w : World) (hA : Holds w A (strs xs)) (hn : xs.length = n) (hN : n ≤ 1048576) (hcap : n ≤ c) (hlen : (Lib.join xs [s]).length ≤ 1073741824) :
    Calls Tryd.prog 64 #[.slice A n c, .string (strOf [s])] w (StrPost (Lib.join xs [s]) w) := by
  subst hn
  match xs, hA, hN, hcap, hlen with
  | [], _, _, _, _ => exact join_none A c [s] w
  | [x], hA, _, _, _ =>
    obtain ⟨b1, o1, rfl, hbl1, hc⟩ := hA.look (k := 0) (by simp [strs])
    rw [Lib.join_one]
    exact join_one b1 o1 c x [s] w (by simpa [strs] using hc)
  | x :: y :: r, hA, hN, hcap, hlen =>
    obtain ⟨b1, o1, rfl, hbl1, hc0⟩ := hA.look (k := 0) (by simp [strs])
    refine join_many b1 o1 c _ x (y :: r) s w ?_ hbl1 rfl (by simp) hN hcap hlen
    intro j z hz
    have hj : j < (x :: y :: r).length := (List.getElem?_eq_some_iff.1 hz).1
    obtain ⟨b2, o2, he, _, hc⟩ := hA.look (k := j) (by rw [strs_len]; exact hj)
    cases he
    rw [hc]
    simp only [strs, List.getElem_map]
    rw [(List.getElem?_eq_some_iff.1 hz).2]
end Go.Proofs.YtedkanncdkofaaaDoor

namespace Go.Proofs.YtedkanncdkofaaaDoor
open Go.RowKit

/-- The numbers of clues, one behind the other. -/
def flat (cs : List Cl) : List Int := cs.flatMap fun c => [c.1, c.2.1, c.2.2]
theorem clsC_flat (cs : List Cl) : clsC cs = nums (flat cs) := by
  induction cs with
  | nil => rfl
  | cons c cs ih =>
    show (clC c).toList ++ clsC cs = _
    rw [ih]
    simp [flat, nums, clC]
theorem flat_len (cs : List Cl) : (flat cs).length = cs.length * 3 := by
  have h := clsC_len cs
  rw [clsC_flat, nums_len] at h
  exact h
theorem flat_get {cs : List Cl} {k : Nat} (hk : k < cs.length) :
    (flat cs)[k * 3]'(by rw [flat_len]; omega) = cs[k].1 ∧ (flat cs)[k * 3 + 1]'(by rw [flat_len]; omega) = cs[k].2.1 ∧ (flat cs)[k * 3 + 2]'(by rw [flat_len]; omega) = cs[k].2.2 := by
  have h0 := clsC_at (cs := cs) hk (j := 0) (by omega)
  have h1 := clsC_at (cs := cs) hk (j := 1) (by omega)
  have h2 := clsC_at (cs := cs) hk (j := 2) (by omega)
  simp only [clsC_flat, nums, List.getElem?_map, List.getElem?_eq_getElem (show k * 3 + 0 < (flat cs).length by rw [flat_len]; omega), List.getElem?_eq_getElem (show k * 3 + 1 < (flat cs).length by rw [flat_len]; omega), List.getElem?_eq_getElem (show k * 3 + 2 < (flat cs).length by rw [flat_len]; omega), clC, Option.map_some] at h0 h1 h2
  simp at h0 h1 h2
  exact ⟨h0, h1, h2⟩
theorem filled_row {cs : List Cl} {k : Nat} (hk : k < cs.length) : (((filled (flat cs) (k * 3)).setIfInBounds (k * 3) (.int .i64 cs[k].1)).setIfInBounds (k * 3 + 1) (.int .i64 cs[k].2.1)).setIfInBounds (k * 3 + 2) (.int .i64 cs[k].2.2) = filled (flat cs) ((k + 1) * 3) := by
  obtain ⟨h0, h1, h2⟩ := flat_get hk
  rw [← h0, ← h1, ← h2, filled_next _ (by rw [flat_len]; omega), filled_next _ (by rw [flat_len]; omega), filled_next _ (by rw [flat_len]; omega)]
  rw [show k * 3 + 2 + 1 = (k + 1) * 3 by omega]
theorem filled_some (xs : List Int) (k : Nat) {j : Nat} (hj : j < xs.length) : ∃ u, (filled xs k)[j]? = some u := by
  have h : j < (filled xs k).size := by simp [filled, nums]; omega
  exact ⟨_, Array.getElem?_eq_getElem h⟩
theorem made_zeros3 (n : Nat) : madeCells (Value.agg #[.int .i64 0, .int .i64 0, .int .i64 0]).cells (n * 3) = (nums (List.replicate (n * 3) 0)).toArray := by
  apply Array.ext_getElem?
  intro j
  have hm : j % 3 = 0 ∨ j % 3 = 1 ∨ j % 3 = 2 := by omega
  simp only [madeCells, nums, Value.cells]
  by_cases h : j < n * 3
  · rcases hm with hm | hm | hm <;> simp [h, hm]
  · simp [h]
theorem info_clue : (Tryd.prog.info? 121).map (fun i => (i.zero, i.size, i.bytes)) = some (some (.agg #[.int .i64 0, .int .i64 0, .int .i64 0]), 3, 24) := by kernel_rfl

set_option maxHeartbeats 400000 in
theorem toClue_any (k a b : Int) (w : World) : Calls Tryd.prog 131 #[.agg #[.int .i64 k, .int .i64 a, .int .i64 b]] w fun e w' => e = .returned (.agg #[.int .i64 k, .int .i64 a, .int .i64 b]) ∧ Below w.heap.size w w' := by
  go_enter Tryd.func131, Tryd.ntmps131
  go_wp2
  exact bodyPost_ret (v := .agg #[.int .i64 k, .int .i64 a, .int .i64 b]) (by simp [results, Tryd.results131, go_sem]) rfl ⟨rfl, below3 w _ _ _⟩

set_option maxHeartbeats 400000 in
theorem szClueS_any (A : Option Addr) (n c : Nat) (l : Int) (w : World) (hn : n ≤ 9223372036854775807) (h0 : 0 ≤ l) (h1 : l ≤ 1048576) :
    Calls Tryd.prog 98 #[.slice A n c, .int .i64 l] w fun e w' => e = .returned (.int .i64 (if l < n then -1 else l - n)) ∧ w = w' := by
  by_cases h : l < n
  · have h' : l - n < 0 := by omega
    go_enter Tryd.func98, Tryd.ntmps98
    go_wp2
    go_ret
    exact ⟨rfl, rfl⟩
  · have h' : ¬ l - n < 0 := by omega
    go_enter Tryd.func98, Tryd.ntmps98
    go_wp2
    go_ret
    exact ⟨rfl, rfl⟩

set_option maxHeartbeats 400000 in
theorem szPuzzle_any (s : Int) (A : Option Addr) (n c : Nat) (l : Int) (w : World) (hn : n ≤ 9223372036854775807) (h0 : 0 ≤ l) (h1 : l ≤ 1048576) :
    Calls Tryd.prog 49 #[.agg #[.int .i64 s, .slice A n c], .int .i64 l] w fun e w' => e = .returned (.int .i64 (if l < n then -1 else l - n)) ∧ Below w.heap.size w w' := by
  by_cases h : l < n
  all_goals
    go_enter Tryd.func49, Tryd.ntmps49
    go_wp2_with fail
    refine (szClueS_any A n c l _ hn h0 h1).mono ?_
    rintro e w' ⟨rfl, rfl⟩
    first | rw [if_pos (by assumption)] | rw [if_neg (by omega)]
    go_wp2
    go_ret
    exact ⟨rfl, (Below.refl _ _).alloc (Nat.le_refl _) _⟩

set_option maxHeartbeats 1600000 in
theorem toClueS_own (A : Option Addr) (n c : Nat) (cs : List Cl) (w : World) (hA : Holds w A (clsC cs)) (hx : cs.length = n) (hn : n ≤ 1048576) :
    Calls Tryd.prog 101 #[.slice A n c] w fun e w' => e = .returned (.slice (some ⟨w.heap.size, 0, none⟩) n n) ∧ Whole w' w.heap.size 121 (clsC cs).toArray ∧ Below w.heap.size w w' := by
  subst hx
  obtain ⟨i0, hi, hz0, hz1, hz2⟩ := info_parts info_clue
  have hmk : ∀ W : World, (Instr.makeSlice 76 (.int .i64 (cs.length : Int)) (.int .i64 (cs.length : Int))).run Tryd.prog W = .ok (.slice (some ⟨W.heap.size, 0, none⟩) cs.length cs.length) (W.alloc (.cells (filled (flat cs) 0) 121)) := by
    intro W
    have h := run_make (P := Tryd.prog) W 76 121 i0 _ Tryd.underlying76 hi hz0 .i64 .i64 cs.length cs.length (by omega) (by omega) (by rw [hz2]; omega) (by omega)
    simp only [Int.toNat_natCast, hz1, made_zeros3] at h
    rw [h]
    simp [filled, flat_len]
  clear hi hz0 hz1 hz2
  go_enter Tryd.func101, Tryd.ntmps101
  go_wp2
  have h0 := Whole.fresh w 121 (filled (flat cs) 0)
  have hb0 : Below w.heap.size w (w.alloc (.cells (filled (flat cs) 0) 121)) := (Below.refl _ _).alloc (Nat.le_refl _) _
  go_loopw [4] (fun i wr => ∃ k : Nat, k ≤ cs.length ∧ i = .int .i64 k ∧ Whole wr w.heap.size 121 (filled (flat cs) (k * 3)) ∧ Below w.heap.size w wr) (fun i _ => cs.length - (intOf i).toNat)
  case atStart => exact ⟨0, Nat.zero_le _, rfl, h0, hb0⟩
  case round =>
    obtain ⟨k, hk, rfl, hw, hb⟩ := hrel
    clear hmk h0 hb0
    by_cases hlt : k < cs.length
    · obtain ⟨b, o, rfl, hbl, c0, c1, c2⟩ := cls_look (hA.below hb) hlt
      obtain ⟨⟨x1, x2, x3⟩, hx⟩ : ∃ x, x = cs[k] := ⟨_, rfl⟩
      rw [← hx] at c0 c1 c2
      dsimp only at c0 c1 c2
      have hkl : (k : Int) < cs.length := by omega
      have HW := Lib.hid hw
      have HB := Lib.hid hb
      have HX := Lib.hid hx
      clear hw hb hx
      go_wp2_with fail
      refine (toClue_any x1 x2 x3 _).mono ?_
      rintro e w2 ⟨rfl, hb2⟩
      have hw2 := HW.out.below hb2
      have hlt2 := hw2.lt
      obtain ⟨v0, d0⟩ := filled_some (flat cs) (k * 3) (j := k * 3) (by rw [flat_len]; omega)
      obtain ⟨v1, d1⟩ := filled_some (flat cs) (k * 3) (j := k * 3 + 1) (by rw [flat_len]; omega)
      obtain ⟨v2, d2⟩ := filled_some (flat cs) (k * 3) (j := k * 3 + 2) (by rw [flat_len]; omega)
      have e0 := (hw2.cell (k * 3)).trans d0
      have e1 := (hw2.cell (k * 3 + 1)).trans d1
      have e2 := (hw2.cell (k * 3 + 2)).trans d2
      have f0 := hw2.open_ (k * 3)
      have f1 := hw2.open_ (k * 3 + 1)
      have f2 := hw2.open_ (k * 3 + 2)
      have hn2 := ((hw2.set_ (k * 3) (.int .i64 x1)).set_ (k * 3 + 1) (.int .i64 x2)).set_ (k * 3 + 2) (.int .i64 x3)
      have hrow := filled_row hlt
      rw [← HX.out] at hrow
      dsimp only at hrow
      rw [hrow] at hn2
      have HN := Lib.hid hn2
      have HB2 := Lib.hid (HB.out.trans (hb2.mono HB.out.size))
      clear hn2 hrow hw2 hb2 d0 d1 d2
      go_wp2
      go_roundw
      case rel => exact ⟨k + 1, by omega, by go_num, HN.out, ((HB2.out.setCell (p := ⟨w.heap.size, k * 3, none⟩) (Nat.le_refl _) _).setCell (p := ⟨w.heap.size, k * 3 + 1, none⟩) (Nat.le_refl _) _).setCell (p := ⟨w.heap.size, k * 3 + 2, none⟩) (Nat.le_refl _) _⟩
      case measure => simp [intOf]; omega
    · have hkn : k = cs.length := by omega
      subst hkn
      have hd : filled (flat cs) (cs.length * 3) = (clsC cs).toArray := by rw [← flat_len, filled_done, clsC_flat]
      rw [hd] at hw
      have HW := Lib.hid hw
      clear hw hd
      go_wp2
      go_ret
      exact ⟨rfl, HW.out, hb⟩

set_option maxHeartbeats 800000 in
theorem toPuzzle_own (s : Int) (A : Option Addr) (n c : Nat) (cs : List Cl) (w : World) (hA : Holds w A (clsC cs)) (hx : cs.length = n) (hn : n ≤ 1048576) :
    Calls Tryd.prog 51 #[.agg #[.int .i64 s, .slice A n c]] w fun e w' => ∃ g, e = .returned (.agg #[.int .i64 s, .slice (some ⟨g, 0, none⟩) n n]) ∧ w.heap.size ≤ g ∧ Whole w' g 121 (clsC cs).toArray ∧ Below w.heap.size w w' := by
  have HX := Lib.hid hx
  clear hx
  have hy0 := (Whole.fresh (w.alloc (.cells #[.int .i64 s, .slice A n c] 73)) 78 #[.int .i64 0, .slice none 0 0]).alloc (.cells #[.int .i64 s, .slice none 0 0] 78)
  have hz0 := Whole.fresh ((w.alloc (.cells #[.int .i64 s, .slice A n c] 73)).alloc (.cells #[.int .i64 0, .slice none 0 0] 78)) 78 #[.int .i64 s, .slice none 0 0]
  simp only [World.size_alloc] at hy0 hz0
  have HY := Lib.hid hy0
  have HZ := Lib.hid hz0
  clear hy0 hz0
  go_enter Tryd.func51, Tryd.ntmps51
  go_wp2_with fail
  refine (toClueS_own A n c cs _ (((hA.alloc _).alloc _).alloc _) HX.out hn).mono ?_
  rintro e w1 ⟨rfl, hw, hb⟩
  have hy1 := HY.out.below hb
  have hz1 := HZ.out.below hb
  obtain ⟨y0, y1⟩ := hy1.cells2
  obtain ⟨z0, z1⟩ := hz1.cells2
  have yf0 := hy1.open_ 0
  have yf1 := hy1.open_ 1
  have zf1 := hz1.open_ 1
  have hbs := hb.size
  have hz : w.heap.size + 3 < w1.heap.size := by have := hw.lt; simp at this; omega
  have hw' : Whole w1 (w.heap.size + 1 + 1 + 1) 121 (clsC cs).toArray := by simpa using hw
  have hb' : Below w.heap.size w w1 := below_then (below3 w _ _ _) hb (by simp; omega)
  have HW := Lib.hid hw'
  have HB := Lib.hid hb'
  clear hw hb hy1 hz1 hw' hb'
  go_wp2
  refine bodyPost_ret (v := .agg #[.int .i64 s, .slice (some ⟨w.heap.size + 1 + 1 + 1, 0, none⟩) n n]) (by simp [results, Tryd.results51, go_sem, y0, y1, z0, z1]) rfl ⟨_, rfl, by omega, ?_, ?_⟩
  · exact ((HW.out.off (by omega)).off (by omega)).off (by omega)
  · exact below_set (below_set (below_set HB.out (by omega)) (by omega)) (by omega)
end Go.Proofs.YtedkanncdkofaaaDoor

namespace Go.Proofs.YtedkanncdkofaaaDoor
open Go.RowKit

set_option maxHeartbeats 400000 in
theorem eqClue_yes (k a b : Int) (w : World) : Calls Tryd.prog 134 #[.agg #[.int .i64 k, .int .i64 a, .int .i64 b], .agg #[.int .i64 k, .int .i64 a, .int .i64 b]] w fun e w' => e = .returned (.bool true) ∧ Below w.heap.size w w' := by
  have hk : (k != k) = false := by simp
  have ha : (a != a) = false := by simp
  have hb : (b != b) = false := by simp
  go_enter Tryd.func134, Tryd.ntmps134
  go_wp2
  go_ret
  exact ⟨rfl, below2 w _ _⟩

set_option maxHeartbeats 1600000 in
theorem eqClueS_yes (A B : Option Addr) (n c d : Nat) (cs : List Cl) (w : World) (hA : Holds w A (clsC cs)) (hB : Holds w B (clsC cs)) (hx : cs.length = n) (hn : n ≤ 9223372036854775807) :
    Calls Tryd.prog 104 #[.slice A n c, .slice B n d] w fun e w' => e = .returned (.bool true) ∧ Below w.heap.size w w' := by
  subst hx
  have hll : ((cs.length : Int) != (cs.length : Int)) = false := by simp
  go_enter Tryd.func104, Tryd.ntmps104
  go_wp2
  go_loopw [5] (fun i wr => ∃ k : Nat, k ≤ cs.length ∧ i = .int .i64 k ∧ Below w.heap.size w wr) (fun i _ => cs.length - (intOf i).toNat)
  case atStart => exact ⟨0, Nat.zero_le _, rfl, Below.refl _ _⟩
  case round =>
    obtain ⟨k, hk, rfl, hb⟩ := hrel
    by_cases hlt : k < cs.length
    · obtain ⟨b, o, rfl, hbl, c0, c1, c2⟩ := cls_look (hA.below hb) hlt
      obtain ⟨b', o', rfl, hbl', d0, d1, d2⟩ := cls_look (hB.below hb) hlt
      obtain ⟨⟨x1, x2, x3⟩, hx⟩ : ∃ x, x = cs[k] := ⟨_, rfl⟩
      rw [← hx] at c0 c1 c2 d0 d1 d2
      dsimp only at c0 c1 c2 d0 d1 d2
      have hkl : (k : Int) < cs.length := by omega
      have HB := Lib.hid hb
      clear hb hx
      go_wp2_with fail
      go_region_held3 (fun w' => (w'.cell? ⟨b, o + k * 3, none⟩ = some (.int .i64 x1) ∧ w'.cell? ⟨b, o + k * 3 + 1, none⟩ = some (.int .i64 x2) ∧ w'.cell? ⟨b, o + k * 3 + 2, none⟩ = some (.int .i64 x3)) ∧ (w'.cell? ⟨b', o' + k * 3, none⟩ = some (.int .i64 x1) ∧ w'.cell? ⟨b', o' + k * 3 + 1, none⟩ = some (.int .i64 x2) ∧ w'.cell? ⟨b', o' + k * 3 + 2, none⟩ = some (.int .i64 x3))) (go_keep)
        (first | (go_at_call 134; refine (eqClue_yes x1 x2 x3 _).mono ?_; rintro e w2 ⟨rfl, hb2⟩; have hb3 : Below wr.heap.size wr w2 := below_then (Below.refl wr.heap.size wr).drew hb2 (Nat.le_refl _); have e0 := (hb3.cell (p := ⟨b, o + k * 3, none⟩) hbl).trans c0; have e1 := (hb3.cell (p := ⟨b, o + k * 3 + 1, none⟩) hbl).trans c1; have e2 := (hb3.cell (p := ⟨b, o + k * 3 + 2, none⟩) hbl).trans c2; have g0 := (hb3.cell (p := ⟨b', o' + k * 3, none⟩) hbl').trans d0; have g1 := (hb3.cell (p := ⟨b', o' + k * 3 + 1, none⟩) hbl').trans d1; have g2 := (hb3.cell (p := ⟨b', o' + k * 3 + 2, none⟩) hbl').trans d2; have HB3 := Lib.hid (below_then HB.out hb3 HB.out.size); clear hb2 hb3) | fail)
      go_wp2
      go_roundw
      case rel => exact ⟨k + 1, by omega, by go_num, HB3.out⟩
      case measure => simp [intOf]; omega
    · have HB := Lib.hid hb
      clear hb
      go_wp2
      go_ret
      exact ⟨rfl, HB.out⟩

set_option maxHeartbeats 400000 in
theorem eqPuzzle_yes (A B : Option Addr) (n c d : Nat) (cs : List Cl) (s : Int) (w : World) (hA : Holds w A (clsC cs)) (hB : Holds w B (clsC cs)) (hx : cs.length = n) (hn : n ≤ 9223372036854775807) :
    Calls Tryd.prog 53 #[.agg #[.int .i64 s, .slice A n c], .agg #[.int .i64 s, .slice B n d]] w fun e w' => e = .returned (.bool true) ∧ Below w.heap.size w w' := by
  have HX := Lib.hid hx
  clear hx
  have hss : (s != s) = false := by simp
  have hb2 := below2 w (.cells #[.int .i64 s, .slice A n c] 78) (.cells #[.int .i64 s, .slice B n d] 78)
  have HB2 := Lib.hid hb2
  have HA := Lib.hid (hA.below hb2)
  have HB := Lib.hid (hB.below hb2)
  clear hA hB hb2
  go_enter Tryd.func53, Tryd.ntmps53
  go_wp2_with fail
  refine (eqClueS_yes A B n c d cs _ HA.out HB.out HX.out hn).mono ?_
  rintro e w1 ⟨rfl, hb⟩
  have HF := Lib.hid (below_then HB2.out hb HB2.out.size)
  clear hb
  go_wp2
  go_ret
  exact ⟨rfl, HF.out⟩
end Go.Proofs.YtedkanncdkofaaaDoor

namespace Go.Proofs
open Go.Shelf
def Tryd.laysM171_ren : Go.Shelf.Ren := ⟨fun | 171 => 63 | 243 => 115 | 246 => 135 | 283 => 148 | 284 => 149 | 285 => 150 | 286 => 151 | 129 => 170 | 317 => 169 | 318 => 171 | 319 => 172 | 320 => 173 | 337 => 180 | 338 => 181 | n => n, fun | 3 => 3 | 9 => 9 | 2 => 2 | 4 => 4 | 171 => 160 | 0 => 0 | 53 => 161 | 37 => 132 | 5 => 5 | 173 => 164 | 212 => 185 | 51 => 186 | 20 => 20 | 213 => 187 | 46 => 171 | 232 => 206 | 233 => 207 | n => n, fun | 17 => 1 | 18 => 6 | 19 => 7 | n => n⟩
theorem Tryd.laysM171 : Go.Proofs.LaysM.n171 Tryd.prog Tryd.laysM171_ren := {
  mixed := by kernel_rfl
  f129 := Tryd.func170.trans (congrArg some (by kernel_rfl))
  f171 := Tryd.func63.trans (congrArg some (by kernel_rfl))
  f243 := Tryd.func115.trans (congrArg some (by kernel_rfl))
  f246 := Tryd.func135.trans (congrArg some (by kernel_rfl))
  f283 := Tryd.func148.trans (congrArg some (by kernel_rfl))
  f284 := Tryd.func149.trans (congrArg some (by kernel_rfl))
  f285 := Tryd.func150.trans (congrArg some (by kernel_rfl))
  f286 := Tryd.func151.trans (congrArg some (by kernel_rfl))
  f317 := Tryd.func169.trans (congrArg some (by kernel_rfl))
  f318 := Tryd.func171.trans (congrArg some (by kernel_rfl))
  f319 := Tryd.func172.trans (congrArg some (by kernel_rfl))
  f320 := Tryd.func173.trans (congrArg some (by kernel_rfl))
  f337 := Tryd.func180.trans (congrArg some (by kernel_rfl))
  f338 := Tryd.func181.trans (congrArg some (by kernel_rfl))
  t0 := Tryd.underlying0
  a0 := Tryd.isAgg0
  z0 := Tryd.sizeOf0
  v0 := Tryd.zeroValue0
  t2 := Tryd.underlying2
  a2 := Tryd.isAgg2
  z2 := Tryd.sizeOf2
  v2 := Tryd.zeroValue2
  t3 := Tryd.underlying3
  a3 := Tryd.isAgg3
  z3 := Tryd.sizeOf3
  v3 := Tryd.zeroValue3
  t4 := Tryd.underlying4
  a4 := Tryd.isAgg4
  z4 := Tryd.sizeOf4
  v4 := Tryd.zeroValue4
  t5 := Tryd.underlying5
  a5 := Tryd.isAgg5
  z5 := Tryd.sizeOf5
  v5 := Tryd.zeroValue5
  t9 := Tryd.underlying9
  a9 := Tryd.isAgg9
  z9 := Tryd.sizeOf9
  v9 := Tryd.zeroValue9
  t20 := Tryd.underlying20
  a20 := Tryd.isAgg20
  z20 := Tryd.sizeOf20
  v20 := Tryd.zeroValue20
  t37 := Tryd.underlying132
  a37 := Tryd.isAgg132
  z37 := Tryd.sizeOf132
  v37 := Tryd.zeroValue132
  t46 := Tryd.underlying171
  a46 := Tryd.isAgg171
  z46 := Tryd.sizeOf171
  v46 := Tryd.zeroValue171
  t51 := Tryd.underlying186
  a51 := Tryd.isAgg186
  z51 := Tryd.sizeOf186
  v51 := Tryd.zeroValue186
  t53 := Tryd.underlying161
  a53 := Tryd.isAgg161
  z53 := Tryd.sizeOf161
  v53 := Tryd.zeroValue161
  t171 := Tryd.underlying160
  a171 := Tryd.isAgg160
  z171 := Tryd.sizeOf160
  v171 := Tryd.zeroValue160
  t173 := Tryd.underlying164
  a173 := Tryd.isAgg164
  z173 := Tryd.sizeOf164
  v173 := Tryd.zeroValue164
  t212 := Tryd.underlying185
  a212 := Tryd.isAgg185
  z212 := Tryd.sizeOf185
  v212 := Tryd.zeroValue185
  t213 := Tryd.underlying187
  a213 := Tryd.isAgg187
  z213 := Tryd.sizeOf187
  t232 := Tryd.underlying206
  a232 := Tryd.isAgg206
  z232 := Tryd.sizeOf206
  v232 := Tryd.zeroValue206
  t233 := Tryd.underlying207
  a233 := Tryd.isAgg207
  z233 := Tryd.sizeOf207
  v233 := Tryd.zeroValue207
  g17 := by kernel_rfl
  g18 := by kernel_rfl
  g19 := by kernel_rfl
  i0 := by kernel_rfl
  i2 := by kernel_rfl
  i3 := by kernel_rfl
  i4 := by kernel_rfl
  i5 := by kernel_rfl
  i9 := by kernel_rfl
  i20 := by kernel_rfl
  i37 := by kernel_rfl
  i46 := by kernel_rfl
  i51 := by kernel_rfl
  i53 := by kernel_rfl
  i171 := by kernel_rfl
  i173 := by kernel_rfl
  i212 := by kernel_rfl
  i232 := by kernel_rfl
  i233 := by kernel_rfl
  m17 := by kernel_rfl
  m18 := by kernel_rfl
  m19 := by kernel_rfl }
open Go.RowKit Go.Sort Go.Lib in
theorem Tryd.strconv_Itoa (n : Int) (h0 : -9223372036854775808 ≤ n) (h1 : n ≤ 9223372036854775807) (w : World) (htab : Lib.TabIs Tryd.prog w "internal/strconv.uint64pow10" .u64 Lib.pow10Tab) :
    Calls Tryd.prog 63 #[.int .i64 n] w fun e w' => e = .returned (.string ⟨(Lib.itoa n).toArray⟩) ∧ ∃ k os, w' = grow (w.drewN k) os := Any.strconv_Itoa Tryd.laysM171 n h0 h1 w htab
end Go.Proofs

namespace Go.Proofs.YtedkanncdkofaaaDoor
open Go.RowKit

/-- A number as its digits. -/
abbrev digs (n : Int) : List UInt8 := Lib.decDigits n.toNat
theorem digs_nat (n : Nat) : digs (n : Int) = Lib.decDigits n := by simp [digs]
theorem itoa_digs {n : Int} (h : 0 ≤ n) : Lib.itoa n = digs n := by
  obtain ⟨u, rfl⟩ : ∃ u : Nat, n = u := ⟨n.toNat, by omega⟩
  rw [Lib.itoa_nonneg, digs_nat]
theorem decDigits_small {n : Nat} (h : n < 10) : Lib.decDigits n = [UInt8.ofNat (48 + n)] := by rw [Lib.decDigits, dif_pos h]
theorem decDigits_more {n : Nat} (h : ¬ n < 10) : Lib.decDigits n = Lib.decDigits (n / 10) ++ [UInt8.ofNat (48 + n % 10)] := by
  conv => lhs; rw [Lib.decDigits]
  rw [dif_neg h]
theorem decDigits_le : ∀ (k n : Nat), n < 10 ^ (k + 1) → (Lib.decDigits n).length ≤ k + 1 := by
  intro k
  induction k with
  | zero => intro n h; rw [decDigits_small (by simpa using h)]; simp
  | succ k ih =>
    intro n h
    by_cases h10 : n < 10
    · rw [decDigits_small h10]; simp
    · rw [decDigits_more h10, List.length_append]
      have := ih (n / 10) (by rw [Nat.pow_succ] at h; omega)
      simp
      omega
theorem digs_le {n : Int} (h : n < 1000000) : (digs n).length ≤ 6 := decDigits_le 5 _ (by omega)

theorem join_snoc (xs : List (List UInt8)) (y sep : List UInt8) : Lib.join (xs ++ [y]) sep = Lib.join xs sep ++ (if xs = [] then [] else sep) ++ y := by
  cases xs with
  | nil => simp [Lib.join_nil, Lib.join_one]
  | cons x r =>
    rw [List.cons_append, Lib.join_cons, Lib.join_cons]
    simp [Lib.joinTail, List.append_assoc]
theorem join_take (xs : List (List UInt8)) (sep : List UInt8) (k : Nat) (hk : k < xs.length) : Lib.join (xs.take (k + 1)) sep = Lib.join (xs.take k) sep ++ (if k = 0 then [] else sep) ++ xs[k] := by
  rw [List.take_succ_eq_append_getElem hk, join_snoc]
  have he : (xs.take k = []) ↔ k = 0 := by
    constructor
    · intro h
      have h2 : (xs.take k).length = 0 := by rw [h]; rfl
      rw [List.length_take] at h2
      omega
    · rintro rfl
      rfl
  by_cases h : k = 0
  · rw [if_pos h, if_pos (he.2 h)]
  · rw [if_neg h, if_neg fun e => h (he.1 e)]
theorem join_le (xs : List (List UInt8)) (sep : List UInt8) (m : Nat) (h : ∀ x ∈ xs, x.length ≤ m) : (Lib.join xs sep).length ≤ xs.length * (m + sep.length) := by
  have hl : ∀ l : List (List UInt8), (∀ x ∈ l, x.length ≤ m) → Lib.lens l ≤ l.length * m := by
    intro l
    induction l with
    | nil => intro _; simp [Lib.lens]
    | cons x r ih =>
      intro hx
      have h1 := ih fun y hy => hx y (List.mem_cons_of_mem _ hy)
      have h2 := hx x List.mem_cons_self
      simp only [Lib.lens, List.map_cons, List.sum_cons, List.length_cons] at h1 ⊢
      rw [Nat.add_mul]
      omega
  cases xs with
  | nil => simp [Lib.join_nil]
  | cons x r =>
    have h1 := hl (x :: r) h
    rw [Lib.join_length, Nat.mul_add]
    have h2 : sep.length * r.length ≤ (x :: r).length * sep.length := by
      rw [Nat.mul_comm, List.length_cons, Nat.add_mul]
      omega
    omega
theorem join_take_le (xs : List (List UInt8)) (sep : List UInt8) (m k : Nat) (h : ∀ x ∈ xs, x.length ≤ m) : (Lib.join (xs.take k) sep).length ≤ xs.length * (m + sep.length) := by
  refine Nat.le_trans (join_le _ sep m fun x hx => h x (List.mem_of_mem_take hx)) (Nat.mul_le_mul_right _ ?_)
  rw [List.length_take]
  omega

/-- The text of a party. -/
def partyText (xs : List Int) (s : Int) : List UInt8 := digs s ++ [58] ++ Lib.join (xs.map digs) [44]
/-- The text of a night. -/
def nightText (xs : List Int) (s t : Int) : List UInt8 := digs t ++ [42] ++ partyText xs s
/-- A person of a crew as a word. -/
def manText (w : Int) (r : Bool) : List UInt8 := digs w ++ (if r then [114] else [])
/-- The text of a crew. -/
def crewText (ws : List Int) (rs : List Bool) (m : Int) : List UInt8 := digs m ++ [61] ++ Lib.join (List.zipWith manText ws rs) [44]
end Go.Proofs.YtedkanncdkofaaaDoor

namespace Go.Proofs.YtedkanncdkofaaaDoor
open Go.RowKit

/-- The table of powers of ten lies as told. -/
def Tab (w : World) : Prop := Lib.TabIs Tryd.prog w "internal/strconv.uint64pow10" .u64 Lib.pow10Tab
theorem tab_named : Tryd.prog.globalNamed "internal/strconv.uint64pow10" = some 1 := by kernel_rfl
theorem Tab.below {w w' : World} (h : Tab w) (hb : Below w.heap.size w w') : Tab w' := Joins.tab_stays tab_named h hb (Nat.le_refl _)
theorem Tab.alloc {w : World} (h : Tab w) (o : Obj) : Tab (w.alloc o) := Lib.tabIs_alloc h o

theorem itoa_any (n : Int) (w : World) (hT : Tab w) (h0 : 0 ≤ n) (h1 : n ≤ 9223372036854775807) :
    Calls Tryd.prog 63 #[.int .i64 n] w fun e w' => e = .returned (.string ⟨(digs n).toArray⟩) ∧ Below w.heap.size w w' := by
  refine (Tryd.strconv_Itoa n (by omega) h1 w hT).mono ?_
  rintro e w' ⟨rfl, k, os, rfl⟩
  exact ⟨by rw [itoa_digs h0], Lib.below_grow _ w (Nat.le_refl _) k os⟩

/-- One byte as a text. -/
theorem one_byte (c : UInt8) (z : Int) (hz : z = (c.toNat : Int)) (g : Nat) (W : World) (h : W.cell? ⟨g, 0, none⟩ = some (.int .u8 z)) :
    (convert 132 9 (.slice (some ⟨g, 0, none⟩) 1 1)).run Tryd.prog W = .ok (.string ⟨#[c]⟩) W := by
  subst hz
  refine run_convert_bytes_back W 132 9 5 ⟨g, 0, none⟩ 1 [c] Tryd.underlying132 Tryd.underlying5 Tryd.underlying9 ?_
  intro j hj
  obtain rfl : j = 0 := by simpa using hj
  exact h
theorem digit_byte {n : Nat} (h : n < 10) : 48 + (n : Int) = ((UInt8.ofNat (48 + n)).toNat : Int) := by
  have : (UInt8.ofNat (48 + n)).toNat = 48 + n := by simp [UInt8.toNat_ofNat']; omega
  rw [this]; omega
set_option maxRecDepth 100000 in
theorem l1Num_small (n : Nat) (h10 : n < 10) (w : World) :
    Calls Tryd.prog 112 #[.int .i64 n] w fun e w' => e = .returned (.string ⟨(Lib.decDigits n).toArray⟩) ∧ Below w.heap.size w w' := by
  have hd := decDigits_small h10
  have hb := digit_byte h10
  generalize UInt8.ofNat (48 + n) = c at hd hb
  have HD := Lib.hid hd
  have hcv := one_byte c _ hb w.heap.size (w.alloc (.cells #[.int .u8 (48 + (n : Int))] 5)) ((Whole.fresh w 5 #[.int .u8 (48 + (n : Int))]).cell 0)
  clear hd hb
  go_enter Tryd.func112, Tryd.ntmps112
  go_wp2
  go_ret
  exact ⟨by rw [HD.out]; rfl, below1 w _⟩
set_option linter.unusedSimpArgs false in
set_option maxHeartbeats 1600000 in
set_option maxRecDepth 100000 in
theorem l1Num_more (n q : Nat) (c : UInt8) (l : List UInt8) (w : World) (hn : (n : Int) ≤ 9999999) (hn0 : ¬ (n : Int) < 10) (hq : IntKind.i64.wrap ((n : Int) / 10) = (q : Int)) (hl : l.length ≤ 100)
    (hb : IntKind.u8.wrap (IntKind.i64.wrap (48 + (n : Int).tmod 10)) = (c.toNat : Int))
    (hih : ∀ W : World, Calls Tryd.prog 112 #[.int .i64 q] W fun e w' => e = .returned (.string ⟨l.toArray⟩) ∧ Below W.heap.size W w') :
    Calls Tryd.prog 112 #[.int .i64 n] w fun e w' => e = .returned (.string ⟨(l ++ [c]).toArray⟩) ∧ Below w.heap.size w w' := by
  have HQ := Lib.hid hq
  have HIH := Lib.hid hih
  have hn1 : (0 : Int) ≤ (n : Int) := by omega
  obtain ⟨z, hz⟩ : ∃ z, z = IntKind.u8.wrap (IntKind.i64.wrap (48 + (n : Int).tmod 10)) := ⟨_, rfl⟩
  rw [← hz] at hb
  have HB := Lib.hid hb
  replace hz := hz.symm
  have hcat := fun W => run_string_add_lists (P := Tryd.prog) (w := W) l [c] (by omega) (by simp)
  clear hq hih hb hl
  go_enter Tryd.func112, Tryd.ntmps112
  go_wp2_with fail
  have ht := (Below.refl w.heap.size w).drew
  refine wp_region_held_drew (S := (fun _ => True)) (by kernel_rfl) trivial (fun hHeld => ?_)
  generalize World.drew w = wd at ht hHeld ⊢
  refine wpAnyH_take (i := 0) (v := ?_) rfl (by kernel_rfl) (by kernel_rfl) (by kernel_rfl) (fun _ _ _ h => h) (Or.inl ⟨rfl, ?_⟩) hHeld ?_
  rotate_left
  · intro w' hS; skip; go_simp <;> with_reducible rfl
  simp only [Act.put, List.getElem_toArray, List.getElem_cons_succ, List.getElem_cons_zero, List.setIfInBounds_toArray, List.set_cons_succ, List.set_cons_zero]
  refine wpAnyH_take (i := 1) (v := ?_) rfl (by kernel_rfl) (by kernel_rfl) (by kernel_rfl) (fun _ _ _ h => h) (Or.inl ⟨rfl, ?_⟩) hHeld ?_
  rotate_left
  · intro w' hS; skip; go_simp <;> with_reducible rfl
  simp only [Act.put, List.getElem_toArray, List.getElem_cons_succ, List.getElem_cons_zero, List.setIfInBounds_toArray, List.set_cons_succ, List.set_cons_zero]
  refine wpAnyH_take (i := 3) (v := ?_) rfl (by kernel_rfl) (by kernel_rfl) (by kernel_rfl) (fun _ _ _ h => h) (Or.inl ⟨rfl, ?_⟩) hHeld ?_
  rotate_left
  · intro w' hS; skip; go_simp <;> with_reducible rfl
  simp only [Act.put, List.getElem_toArray, List.getElem_cons_succ, List.getElem_cons_zero, List.setIfInBounds_toArray, List.set_cons_succ, List.set_cons_zero]
  refine wpAnyH_take (i := 4) (v := ?_) rfl (by kernel_rfl) (by kernel_rfl) (by kernel_rfl) (fun _ _ _ h => h) (Or.inl ⟨rfl, ?_⟩) hHeld ?_
  rotate_left
  · intro w' hS; skip; go_simp <;> with_reducible rfl
  simp only [Act.put, List.getElem_toArray, List.getElem_cons_succ, List.getElem_cons_zero, List.setIfInBounds_toArray, List.set_cons_succ, List.set_cons_zero]
  refine wpAnyH_take (i := 5) (v := ?_) rfl (by kernel_rfl) (by kernel_rfl) (by kernel_rfl) (fun _ _ _ h => h) (Or.inl ⟨rfl, ?_⟩) hHeld ?_
  rotate_left
  · intro w' hS; skip; go_simp <;> with_reducible rfl
  simp only [Act.put, List.getElem_toArray, List.getElem_cons_succ, List.getElem_cons_zero, List.setIfInBounds_toArray, List.set_cons_succ, List.set_cons_zero]
  refine wpAnyH_take (i := 6) (v := ?_) rfl (by kernel_rfl) (by kernel_rfl) (by kernel_rfl) (fun _ _ _ h => h) (Or.inl ⟨rfl, ?_⟩) hHeld ?_
  rotate_left
  · intro w' hS; skip; go_simp <;> with_reducible rfl
  simp only [Act.put, List.getElem_toArray, List.getElem_cons_succ, List.getElem_cons_zero, List.setIfInBounds_toArray, List.set_cons_succ, List.set_cons_zero]
  refine wpAnyH_ready (rs := [2, 7]) (by kernel_rfl) (by simp) (AllReadyH.cons rfl (fun K hK => ?_) (AllReadyH.cons rfl (fun K hK => ?_) AllReadyH.nil))
  · go_simp
    rw [HQ.out]
    refine (HIH.out _).mono ?_
    rintro e wd_2 ⟨rfl, hb⟩
    replace ht := below_then ht hb ht.size
    clear hb
    refine hK.out _ _ trivial (fun hHeld => ?_)
    clear hK K
    try simp only [Act.put, List.getElem_toArray, List.getElem_cons_succ, List.getElem_cons_zero, List.setIfInBounds_toArray, List.set_cons_succ, List.set_cons_zero]
    refine wpAnyH_ready (rs := [7]) (by kernel_rfl) (by simp) (AllReadyH.cons rfl (fun K hK => ?_) AllReadyH.nil)
    go_simp
    have hN := Whole.fresh wd_2 5 #[.int .u8 z]
    obtain ⟨gN, hgN⟩ : ∃ g, g = wd_2.heap.size := ⟨_, rfl⟩
    rw [← hgN] at hN ⊢
    clear hgN
    replace ht := ht.alloc ht.size (.cells #[.int .u8 z] 5)
    generalize World.alloc wd_2 (.cells #[.int .u8 z] 5) = wd_2_7 at hN ht ⊢
    refine hK.out _ _ trivial (fun hHeld => ?_)
    clear hK K
    try simp only [Act.put, List.getElem_toArray, List.getElem_cons_succ, List.getElem_cons_zero, List.setIfInBounds_toArray, List.set_cons_succ, List.set_cons_zero]
    refine wpAnyH_ready (rs := [8]) (by kernel_rfl) (by simp) (AllReadyH.cons rfl (fun K hK => ?_) AllReadyH.nil)
    have hcv := one_byte c _ HB.out gN wd_2_7 (hN.cell 0)
    go_simp
    clear hcv
    refine hK.out _ _ trivial (fun hHeld => ?_)
    clear hK K
    try simp only [Act.put, List.getElem_toArray, List.getElem_cons_succ, List.getElem_cons_zero, List.setIfInBounds_toArray, List.set_cons_succ, List.set_cons_zero]
    refine wpAnyH_take (i := 9) (v := ?_) rfl (by kernel_rfl) (by kernel_rfl) (by kernel_rfl) (fun _ _ _ h => h) (Or.inl ⟨rfl, ?_⟩) hHeld ?_
    rotate_left
    · intro w' hS; skip; go_simp <;> with_reducible rfl
    simp only [Act.put, List.getElem_toArray, List.getElem_cons_succ, List.getElem_cons_zero, List.setIfInBounds_toArray, List.set_cons_succ, List.set_cons_zero]
    refine wpAnyH_take (i := 10) (v := ?_) rfl (by kernel_rfl) (by kernel_rfl) (by kernel_rfl) (fun _ _ _ h => h) (Or.inl ⟨rfl, ?_⟩) hHeld ?_
    rotate_left
    · intro w' hS; skip; go_simp <;> with_reducible rfl
    simp only [Act.put, List.getElem_toArray, List.getElem_cons_succ, List.getElem_cons_zero, List.setIfInBounds_toArray, List.set_cons_succ, List.set_cons_zero]
    refine wpAnyH_done (by kernel_rfl) ?_ _
    clear hHeld
    go_wp2
    go_ret
    exact ⟨rfl, ht⟩
  · go_simp
    have hN := Whole.fresh wd 5 #[.int .u8 z]
    obtain ⟨gN, hgN⟩ : ∃ g, g = wd.heap.size := ⟨_, rfl⟩
    rw [← hgN] at hN ⊢
    clear hgN
    replace ht := ht.alloc ht.size (.cells #[.int .u8 z] 5)
    generalize World.alloc wd (.cells #[.int .u8 z] 5) = wd_7 at hN ht ⊢
    refine hK.out _ _ trivial (fun hHeld => ?_)
    clear hK K
    try simp only [Act.put, List.getElem_toArray, List.getElem_cons_succ, List.getElem_cons_zero, List.setIfInBounds_toArray, List.set_cons_succ, List.set_cons_zero]
    refine wpAnyH_ready (rs := [2, 8]) (by kernel_rfl) (by simp) (AllReadyH.cons rfl (fun K hK => ?_) (AllReadyH.cons rfl (fun K hK => ?_) AllReadyH.nil))
    · go_simp
      rw [HQ.out]
      refine (HIH.out _).mono ?_
      rintro e wd_7_2 ⟨rfl, hb⟩
      replace ht := below_then ht hb ht.size
      replace hN := hN.below hb
      clear hb
      refine hK.out _ _ trivial (fun hHeld => ?_)
      clear hK K
      try simp only [Act.put, List.getElem_toArray, List.getElem_cons_succ, List.getElem_cons_zero, List.setIfInBounds_toArray, List.set_cons_succ, List.set_cons_zero]
      refine wpAnyH_ready (rs := [8]) (by kernel_rfl) (by simp) (AllReadyH.cons rfl (fun K hK => ?_) AllReadyH.nil)
      have hcv := one_byte c _ HB.out gN wd_7_2 (hN.cell 0)
      go_simp
      clear hcv
      refine hK.out _ _ trivial (fun hHeld => ?_)
      clear hK K
      try simp only [Act.put, List.getElem_toArray, List.getElem_cons_succ, List.getElem_cons_zero, List.setIfInBounds_toArray, List.set_cons_succ, List.set_cons_zero]
      refine wpAnyH_take (i := 9) (v := ?_) rfl (by kernel_rfl) (by kernel_rfl) (by kernel_rfl) (fun _ _ _ h => h) (Or.inl ⟨rfl, ?_⟩) hHeld ?_
      rotate_left
      · intro w' hS; skip; go_simp <;> with_reducible rfl
      simp only [Act.put, List.getElem_toArray, List.getElem_cons_succ, List.getElem_cons_zero, List.setIfInBounds_toArray, List.set_cons_succ, List.set_cons_zero]
      refine wpAnyH_take (i := 10) (v := ?_) rfl (by kernel_rfl) (by kernel_rfl) (by kernel_rfl) (fun _ _ _ h => h) (Or.inl ⟨rfl, ?_⟩) hHeld ?_
      rotate_left
      · intro w' hS; skip; go_simp <;> with_reducible rfl
      simp only [Act.put, List.getElem_toArray, List.getElem_cons_succ, List.getElem_cons_zero, List.setIfInBounds_toArray, List.set_cons_succ, List.set_cons_zero]
      refine wpAnyH_done (by kernel_rfl) ?_ _
      clear hHeld
      go_wp2
      go_ret
      exact ⟨rfl, ht⟩
    · have hcv := one_byte c _ HB.out gN wd_7 (hN.cell 0)
      go_simp
      clear hcv
      refine hK.out _ _ trivial (fun hHeld => ?_)
      clear hK K
      try simp only [Act.put, List.getElem_toArray, List.getElem_cons_succ, List.getElem_cons_zero, List.setIfInBounds_toArray, List.set_cons_succ, List.set_cons_zero]
      refine wpAnyH_ready (rs := [2]) (by kernel_rfl) (by simp) (AllReadyH.cons rfl (fun K hK => ?_) AllReadyH.nil)
      go_simp
      rw [HQ.out]
      refine (HIH.out _).mono ?_
      rintro e wd_7_2 ⟨rfl, hb⟩
      replace ht := below_then ht hb ht.size
      replace hN := hN.below hb
      clear hb
      refine hK.out _ _ trivial (fun hHeld => ?_)
      clear hK K
      try simp only [Act.put, List.getElem_toArray, List.getElem_cons_succ, List.getElem_cons_zero, List.setIfInBounds_toArray, List.set_cons_succ, List.set_cons_zero]
      refine wpAnyH_take (i := 9) (v := ?_) rfl (by kernel_rfl) (by kernel_rfl) (by kernel_rfl) (fun _ _ _ h => h) (Or.inl ⟨rfl, ?_⟩) hHeld ?_
      rotate_left
      · intro w' hS; skip; go_simp <;> with_reducible rfl
      simp only [Act.put, List.getElem_toArray, List.getElem_cons_succ, List.getElem_cons_zero, List.setIfInBounds_toArray, List.set_cons_succ, List.set_cons_zero]
      refine wpAnyH_take (i := 10) (v := ?_) rfl (by kernel_rfl) (by kernel_rfl) (by kernel_rfl) (fun _ _ _ h => h) (Or.inl ⟨rfl, ?_⟩) hHeld ?_
      rotate_left
      · intro w' hS; skip; go_simp <;> with_reducible rfl
      simp only [Act.put, List.getElem_toArray, List.getElem_cons_succ, List.getElem_cons_zero, List.setIfInBounds_toArray, List.set_cons_succ, List.set_cons_zero]
      refine wpAnyH_done (by kernel_rfl) ?_ _
      clear hHeld
      go_wp2
      go_ret
      exact ⟨rfl, ht⟩
/-- A number as its digits, of the model. -/
theorem l1Num_nat : ∀ (k n : Nat) (w : World), n < 10 ^ (k + 1) → k ≤ 5 →
    Calls Tryd.prog 112 #[.int .i64 n] w fun e w' => e = .returned (.string ⟨(Lib.decDigits n).toArray⟩) ∧ Below w.heap.size w w' := by
  intro k
  induction k with
  | zero =>
    intro n w hn hk
    exact l1Num_small n (by simpa using hn) w
  | succ k ih =>
    intro n w hn hk
    by_cases h10 : n < 10
    · exact l1Num_small n h10 w
    · have hn2 : n / 10 < 10 ^ (k + 1) := by rw [Nat.pow_succ] at hn; omega
      have hl := decDigits_le k (n / 10) hn2
      have hn63 : (n : Int) ≤ 9999999 := by
        have : 10 ^ (k + 1 + 1) ≤ 10 ^ 7 := Nat.pow_le_pow_right (by omega) (by omega)
        omega
      rw [decDigits_more h10]
      refine l1Num_more n (n / 10) (UInt8.ofNat (48 + n % 10)) (Lib.decDigits (n / 10)) w hn63 (by omega) (by rw [IntKind.wrap_i64]; omega) (by omega) ?_ fun W => ih (n / 10) W hn2 (by omega)
      rw [← digit_byte (show n % 10 < 10 by omega), Int.tmod_eq_emod_of_nonneg (by omega), IntKind.wrap_u8, IntKind.wrap_i64]
      omega
theorem l1Num_any (n : Int) (w : World) (h0 : 0 ≤ n) (h1 : n < 1000000) :
    Calls Tryd.prog 112 #[.int .i64 n] w fun e w' => e = .returned (.string ⟨(digs n).toArray⟩) ∧ Below w.heap.size w w' := by
  obtain ⟨u, rfl⟩ : ∃ u : Nat, n = u := ⟨n.toNat, by omega⟩
  rw [digs_nat]
  exact l1Num_nat 5 u w (by omega) (by omega)
end Go.Proofs.YtedkanncdkofaaaDoor

namespace Go.Proofs.YtedkanncdkofaaaDoor
open Go.RowKit

theorem cat_to (l m r : List UInt8) (he : r = l ++ m) (h : l.length ≤ 1048576) (h2 : m.length ≤ 1048576) (W : World) : (Op.stringOp .add (strOf l) (strOf m)).run Tryd.prog W = .ok (.string (strOf r)) W := by
  rw [he]
  exact run_string_add_lists W l m (by omega) (by omega)
/-- What stands of a list of words behind k rounds. -/
def upToW (xs : List (List UInt8)) (k : Nat) : List UInt8 := Lib.join (xs.take k) [44]
theorem upToW_zero (xs : List (List UInt8)) : upToW xs 0 = [] := rfl
theorem upToW_one (xs : List (List UInt8)) (h : 0 < xs.length) : upToW xs 1 = xs[0] := by rw [upToW, join_take xs [44] 0 h]; simp [Lib.join_nil]
theorem upToW_next (xs : List (List UInt8)) (k : Nat) (h : k < xs.length) (h0 : k ≠ 0) : upToW xs (k + 1) = upToW xs k ++ [44] ++ xs[k] := by rw [upToW, join_take xs [44] k h, if_neg h0]; rfl
theorem upToW_end (xs : List (List UInt8)) (n : Nat) (h : xs.length = n) : upToW xs n = Lib.join xs [44] := by rw [upToW, List.take_of_length_le (by omega)]
theorem upToW_le (xs : List (List UInt8)) (k m : Nat) (h : ∀ x ∈ xs, x.length ≤ m) : (upToW xs k).length ≤ xs.length * (m + 1) := join_take_le xs [44] m k h

/-- The text of a party up to its first k times. -/
def shownUp (xs : List Int) (s : Int) (k : Nat) : List UInt8 := digs s ++ [58] ++ upToW (xs.map digs) k
theorem shownUp_zero (xs : List Int) (s : Int) : shownUp xs s 0 = digs s ++ [58] := by simp [shownUp, upToW_zero]
theorem shownUp_one (xs : List Int) (s : Int) (k : Nat) (h : k < xs.length) (h0 : k = 0) : shownUp xs s (k + 1) = shownUp xs s k ++ digs xs[k] := by
  subst h0
  rw [shownUp_zero, shownUp, upToW_one _ (by simpa using h)]
  simp
theorem shownUp_next (xs : List Int) (s : Int) (k : Nat) (h : k < xs.length) (h0 : k ≠ 0) : shownUp xs s (k + 1) = shownUp xs s k ++ [44] ++ digs xs[k] := by
  rw [shownUp, shownUp, upToW_next _ k (by simpa using h) h0]
  simp
theorem shownUp_end (xs : List Int) (s : Int) (n : Nat) (h : xs.length = n) : shownUp xs s n = partyText xs s := by
  rw [shownUp, upToW_end _ n (by simpa using h)]; rfl
theorem shownUp_le (xs : List Int) (s : Int) (k : Nat) (hs : s < 1000000) (ht : ∀ x ∈ xs, x < 1000000) : (shownUp xs s k).length ≤ 7 + xs.length * 7 := by
  have h1 := digs_le hs
  have h2 := upToW_le (xs.map digs) k 6 (fun x hx => by obtain ⟨y, hy, rfl⟩ := List.mem_map.1 hx; exact digs_le (ht y hy))
  rw [List.length_map] at h2
  simp only [shownUp, List.length_append, List.length_singleton]
  omega

set_option maxHeartbeats 1600000 in
set_option maxRecDepth 100000 in
theorem paShown_any (A : Option Addr) (n c : Nat) (xs : List Int) (s : Int) (w : World) (hA : Holds w A (nums xs)) (hx : xs.length = n) (hn : n ≤ 8) (hs : 0 ≤ s ∧ s < 1000000) (ht : ∀ x ∈ xs, 0 ≤ x ∧ x < 1000000) :
    Calls Tryd.prog 60 #[.agg #[.slice A n c, .int .i64 s]] w (StrPost (partyText xs s) w) := by
  have HX := Lib.hid hx
  have HT := Lib.hid ht
  have HS := Lib.hid hs
  have hl6 := digs_le hs.2
  have HUL := Lib.hid (fun k => shownUp_le xs s k hs.2 fun x h => (ht x h).2)
  have hA2 := hA.alloc (.cells #[.slice A n c, .int .i64 s] 28)
  have h0 := Whole.fresh w 28 #[.slice A n c, .int .i64 s]
  obtain ⟨c0, c1, -, -⟩ := h0.two
  have ht0 := below1 w (.cells #[.slice A n c, .int .i64 s] 28)
  clear hx ht hs
  go_enter Tryd.func60, Tryd.ntmps60
  go_wp2_with fail
  refine (l1Num_any s _ HS.out.1 HS.out.2).mono ?_
  rintro e w1 ⟨rfl, hb⟩
  have ht := below_then ht0 hb (by simp)
  replace h0 := h0.below hb
  clear hb ht0 c0 c1
  obtain ⟨c0, c1, -, -⟩ := h0.two
  have hcat := cat_to (digs s) [58] (shownUp xs s 0) (shownUp_zero xs s) (by omega) (by simp)
  clear hl6
  go_wp2
  clear hcat
  go_loopw [3, 13] (fun v i wr => ∃ k : Nat, k ≤ n ∧ i = .int .i64 k ∧ v = .string (strOf (shownUp xs s k)) ∧ Below w.heap.size w wr) (fun _ i _ => n - (intOf i).toNat)
  case atStart => exact ⟨0, Nat.zero_le _, rfl, rfl, ht⟩
  case round =>
    obtain ⟨k, hk, rfl, rfl, ht⟩ := hrel
    clear c0 c1 h0
    have hlen := HUL.out k
    rw [HX.out] at hlen
    by_cases hlt : k < n
    · have hkx : k < xs.length := by have := HX.out; omega
      obtain ⟨b1, o1, rfl, hbl1, hc⟩ := (hA.below ht).look (k := k) (by rw [nums_len]; exact hkx)
      simp only [nums, List.getElem_map] at hc
      have hxk := HT.out xs[k] (List.getElem_mem hkx)
      have hd6 := digs_le hxk.2
      have H1 := Lib.hid (shownUp_one xs s k hkx)
      have HNX := Lib.hid (shownUp_next xs s k hkx)
      generalize xs[k] = x at hc hxk hd6 H1 HNX
      generalize hL1 : shownUp xs s (k + 1) = L1 at H1 HNX
      have HL1 := Lib.hid hL1
      clear hL1
      generalize shownUp xs s k = L0 at H1 HNX hlen
      rcases Nat.eq_zero_or_pos k with h1 | h1
      · have HC := Lib.hid (cat_to L0 (digs x) L1 (H1.out h1) (by omega) (by omega))
        have hkz : ¬ ((k : Int) > 0) := by omega
        clear hlen h1
        go_wp2_with fail
        refine (l1Num_any x _ hxk.1 hxk.2).mono ?_
        rintro e w2 ⟨rfl, hb⟩
        replace ht := below_then ht hb ht.size
        have hcat := HC.out
        clear hb hc hA hA2
        go_wp2
        go_roundw
        case rel => exact ⟨k + 1, by omega, by go_num, by rw [HL1.out], ht⟩
        case measure => simp [intOf]; omega
      · have hnx := HNX.out (by omega)
        have hkz : (k : Int) > 0 := by omega
        obtain ⟨M, hM⟩ : ∃ M, M = L0 ++ [44] := ⟨_, rfl⟩
        rw [← hM] at hnx
        have hMl : M.length = L0.length + 1 := by rw [hM]; simp
        have hcat := cat_to L0 [44] M hM (by omega) (by simp)
        have HC := Lib.hid (cat_to M (digs x) L1 hnx (by omega) (by omega))
        clear hlen h1 hM hMl hnx
        go_wp2_with fail
        refine (l1Num_any x _ hxk.1 hxk.2).mono ?_
        rintro e w2 ⟨rfl, hb⟩
        replace ht := below_then ht hb ht.size
        clear hcat
        have hcat := HC.out
        clear hb hc hA hA2
        go_wp2
        go_roundw
        case rel => exact ⟨k + 1, by omega, by go_num, by rw [HL1.out], ht⟩
        case measure => simp [intOf]; omega
    · obtain rfl : k = n := by omega
      have HE := Lib.hid (shownUp_end xs s k HX.out)
      go_wp2
      go_ret
      exact ⟨by rw [HE.out]; rfl, ht⟩
/-- What PartyText tells. -/
def partyTextOf (xs : List Int) (s : Int) : List UInt8 := if isParty xs s then partyText xs s else []
/-- What a call hands back that makes a text and tells whether it did. -/
def TextPost (l : List UInt8) (ok : Bool) (w : World) (e : Ending) (w' : World) : Prop := e = .returned (.tuple #[.string (strOf l), .bool ok]) ∧ Below w.heap.size w w'
theorem isParty_times {xs : List Int} {s : Int} (h : isParty xs s = true) : xs.length ≤ 8 ∧ (0 ≤ s ∧ s < 1000000) ∧ ∀ x ∈ xs, 0 ≤ x ∧ x < 1000000 := by
  simp only [isParty, within, allIn, Bool.and_eq_true, decide_eq_true_eq, List.all_eq_true] at h
  obtain ⟨h1, h2, h3⟩ := h
  exact ⟨by omega, by omega, fun x hx => by have := h2 x hx; omega⟩
set_option maxHeartbeats 1600000 in
set_option maxRecDepth 100000 in
theorem specPartyText_any (A : Option Addr) (n c : Nat) (xs : List Int) (s : Int) (w : World) (hA : Holds w A (nums xs)) (hx : xs.length = n) (hn : n ≤ 9223372036854775807) :
    Calls Tryd.prog 14 #[.agg #[.slice A n c, .int .i64 s]] w (TextPost (partyTextOf xs s) (isParty xs s) w) := by
  have HX := Lib.hid hx
  have hA2 := hA.alloc (.cells #[.slice A n c, .int .i64 s] 28)
  have h0 := Whole.fresh w 28 #[.slice A n c, .int .i64 s]
  obtain ⟨c0, c1, -, -⟩ := h0.two
  have ht0 := below1 w (.cells #[.slice A n c, .int .i64 s] 28)
  clear hx
  go_enter Tryd.func14, Tryd.ntmps14
  go_wp2_with fail
  refine (paGood_any A n c xs s _ hA2 HX.out hn).mono ?_
  rintro e w1 ⟨rfl, hb⟩
  have ht := below_then ht0 hb (by simp)
  replace h0 := h0.below hb
  replace hA2 := hA2.below hb
  clear hb ht0 c0 c1
  obtain ⟨c0, c1, -, -⟩ := h0.two
  cases hp : isParty xs s
  · have HO := Lib.hid (show partyTextOf xs s = [] by rw [partyTextOf, hp]; rfl)
    have HP := Lib.hid hp
    clear hp
    go_wp2
    go_ret2
    exact ⟨by rw [HO.out, HP.out]; rfl, ht⟩
  · have HO := Lib.hid (show partyTextOf xs s = partyText xs s by rw [partyTextOf, hp]; rfl)
    obtain ⟨h8, hs, hxs⟩ := isParty_times hp
    have HP := Lib.hid hp
    clear hp
    go_wp2_with fail
    refine (paShown_any A n c xs s _ hA2 HX.out (by have := HX.out; omega) hs hxs).mono ?_
    rintro e w2 ⟨rfl, hb⟩
    replace ht := below_then ht hb ht.size
    clear hb c0 c1
    go_wp2
    go_ret2
    exact ⟨by rw [HO.out, HP.out]; rfl, ht⟩
end Go.Proofs.YtedkanncdkofaaaDoor

namespace Go.Proofs.YtedkanncdkofaaaDoor
open Go.RowKit

theorem info_string : (Tryd.prog.info? 9).map (fun i => (i.zero, i.size, i.bytes)) = some (some (.string ByteArray.empty), 1, 16) := by kernel_rfl
/-- Words laid one by one, the others empty still. -/
def strsTo (ds : List (List UInt8)) (n k : Nat) : List Value := strs (ds.take k) ++ List.replicate (n - k) (.string ByteArray.empty)
theorem strsTo_zero (ds : List (List UInt8)) (n : Nat) : strsTo ds n 0 = List.replicate n (.string ByteArray.empty) := by simp [strsTo, strs]
theorem strsTo_all (ds : List (List UInt8)) (n : Nat) (h : ds.length = n) : strsTo ds n n = strs ds := by
  rw [strsTo, List.take_of_length_le (by omega), Nat.sub_self]; simp
theorem strsTo_next (ds : List (List UInt8)) (n k : Nat) (h : ds.length = n) (hk : k < n) : (strsTo ds n k).set k (.string (strOf (ds[k]'(by omega)))) = strsTo ds n (k + 1) := by
  have hkd : k < ds.length := by omega
  have hl : (strs (ds.take k)).length = k := by rw [strs_len, List.length_take]; omega
  have hr : List.replicate (n - k) (Value.string ByteArray.empty) = .string ByteArray.empty :: List.replicate (n - (k + 1)) (.string ByteArray.empty) := by
    rw [show n - k = (n - (k + 1)) + 1 by omega, List.replicate_succ]
  rw [strsTo, hr, List.set_append_right _ _ (by omega), hl, Nat.sub_self, List.set_cons_zero, strsTo, List.take_succ_eq_append_getElem hkd]
  simp only [strs, List.map_append, List.map_cons, List.map_nil, List.append_assoc, List.cons_append, List.nil_append]
theorem strsTo_len (ds : List (List UInt8)) (n k : Nat) (h : ds.length = n) (hk : k ≤ n) : (strsTo ds n k).length = n := by
  rw [strsTo, List.length_append, strs_len, List.length_take, List.length_replicate]; omega
theorem make_strs {n : Nat} (ds : List (List UInt8)) (hn : n ≤ 1048576) (W : World) : (Instr.makeSlice 89 (.int .i64 (n : Int)) (.int .i64 (n : Int))).run Tryd.prog W = .ok (.slice (some ⟨W.heap.size, 0, none⟩) n n) (W.alloc (.cells (strsTo ds n 0).toArray 9)) := by
  obtain ⟨i0, hi, hz0, hz1, hz2⟩ := info_parts info_string
  have h := run_make (P := Tryd.prog) W 89 9 i0 _ Tryd.underlying89 hi hz0 .i64 .i64 n n (by omega) (by omega) (by rw [hz2]; omega) (by omega)
  have hm : madeCells (Value.string ByteArray.empty).cells (n * 1) = (strsTo ds n 0).toArray := by
    rw [strsTo_zero]
    apply Array.ext_getElem?
    intro j
    simp [madeCells, Value.cells, Nat.mod_one, Array.getElem?_range]
    by_cases h : j < n <;> simp [h]
  simp only [Int.toNat_natCast, hz1, hm] at h
  rw [h]

set_option maxHeartbeats 1600000 in
set_option maxRecDepth 100000 in
theorem implPartyText_any (A : Option Addr) (n c : Nat) (xs : List Int) (s : Int) (w : World) (hA : Holds w A (nums xs)) (hx : xs.length = n) (hn : n ≤ 9223372036854775807) (hT : Tab w) :
    Calls Tryd.prog 16 #[.agg #[.slice A n c, .int .i64 s]] w (TextPost (partyTextOf xs s) (isParty xs s) w) := by
  have HX := Lib.hid hx
  have hA2 := hA.alloc (.cells #[.slice A n c, .int .i64 s] 28)
  have h0 := Whole.fresh w 28 #[.slice A n c, .int .i64 s]
  obtain ⟨c0, c1, -, -⟩ := h0.two
  have ht0 := below1 w (.cells #[.slice A n c, .int .i64 s] 28)
  clear hx
  go_enter Tryd.func16, Tryd.ntmps16
  go_wp2_with fail
  refine (isParty_any A n c xs s _ hA2 HX.out hn).mono ?_
  rintro e w1 ⟨rfl, hb⟩
  have ht := below_then ht0 hb (by simp)
  replace h0 := h0.below hb
  replace hA2 := hA2.below hb
  clear hb ht0 c0 c1
  obtain ⟨c0, c1, -, -⟩ := h0.two
  cases hp : isParty xs s
  · have HO := Lib.hid (show partyTextOf xs s = [] by rw [partyTextOf, hp]; rfl)
    have HP := Lib.hid hp
    clear hp
    go_wp2
    go_ret2
    exact ⟨by rw [HO.out, HP.out]; rfl, ht⟩
  · have HO := Lib.hid (show partyTextOf xs s = partyText xs s by rw [partyTextOf, hp]; rfl)
    have HP := Lib.hid hp
    obtain ⟨h8, hs, hxs⟩ := isParty_times hp
    rw [HX.out] at h8
    have hmk := fun W : World => make_strs (n := n) (xs.map digs) (by omega) W
    have HXS := Lib.hid hxs
    have hl6 := digs_le hs.2
    have hle := join_le (xs.map digs) [44] 6 (fun x hx => by obtain ⟨y, hy, rfl⟩ := List.mem_map.1 hx; exact digs_le (hxs y hy).2)
    rw [List.length_map, HX.out] at hle
    have HLE := Lib.hid hle
    have hbl := h0.lt
    clear hp hxs hle
    go_wp2
    have hG := Whole.fresh w1 9 (strsTo (xs.map digs) n 0).toArray
    have hwz : w.heap.size ≤ w1.heap.size := ht.size
    have htb := below1 w1 (.cells (strsTo (xs.map digs) n 0).toArray 9)
    replace h0 := h0.alloc (.cells (strsTo (xs.map digs) n 0).toArray 9)
    replace ht := ht.alloc ht.size (.cells (strsTo (xs.map digs) n 0).toArray 9)
    clear hmk c0 c1
    go_loopw [17] (fun i wr => ∃ k : Nat, k ≤ n ∧ i = .int .i64 k ∧ Whole wr w1.heap.size 9 (strsTo (xs.map digs) n k).toArray ∧ Whole wr w.heap.size 28 #[.slice A n c, .int .i64 s] ∧ Below w.heap.size w wr) (fun i _ => n - (intOf i).toNat)
    case atStart => exact ⟨0, Nat.zero_le _, rfl, hG, h0, ht⟩
    case round =>
      obtain ⟨k, hk, rfl, hg, hq, hb⟩ := hrel
      clear hG h0 ht htb
      by_cases hlt : k < n
      · have hkx : k < xs.length := by have := HX.out; omega
        obtain ⟨b1, o1, rfl, hbl1, hc⟩ := (hA.below hb).look (k := k) (by rw [nums_len]; exact hkx)
        simp only [nums, List.getElem_map] at hc
        have hxk := HXS.out xs[k] (List.getElem_mem hkx)
        have HST := Lib.hid (strsTo_next (xs.map digs) n k (by simpa using HX.out) hlt)
        have hgm : (xs.map digs)[k]'(by simpa using hkx) = digs xs[k] := by simp
        rw [hgm] at HST
        generalize xs[k] = x at hc hxk HST
        clear hgm
        go_wp2_with fail
        refine (itoa_any x _ (hT.below hb) hxk.1 (by omega)).mono ?_
        rintro e w2 ⟨rfl, hbi⟩
        have hg2 := hg.below hbi
        have hq2 := hq.below hbi
        have hb2 := below_then hb hbi hb.size
        have hfr := hg2.open_ k
        have hset := hg2.set_ k (.string (strOf (digs x)))
        rw [List.setIfInBounds_toArray, HST.out] at hset
        have hq3 := hq2.off (b := w1.heap.size) (o := k) (u := .string (strOf (digs x))) (by omega)
        obtain ⟨v0, hv0⟩ : ∃ v, (strsTo (xs.map digs) n k).toArray[k]? = some v := ⟨_, by rw [List.getElem?_toArray]; exact List.getElem?_eq_getElem (by rw [strsTo_len _ _ _ (by simpa using HX.out) hk]; exact hlt)⟩
        have hcell := (hg2.cell k).trans hv0
        clear hb hbi hg hg2 hq hq2 hA hA2 hc hv0
        go_wp2
        go_roundw
        case rel => exact ⟨k + 1, by omega, by go_num, hset, hq3, below_set hb2 hwz⟩
        case measure => simp [intOf]; omega
      · obtain rfl : k = n := by omega
        obtain ⟨c0, c1, -, -⟩ := hq.two
        go_wp2_with fail
        refine (itoa_any s _ (hT.below hb) hs.1 (by omega)).mono ?_
        rintro e w2 ⟨rfl, hbi⟩
        replace hg := hg.below hbi
        have hb2 := below_then hb hbi hb.size
        have hcat := cat_to (digs s) [58] (digs s ++ [58]) rfl (by omega) (by simp)
        clear hq c0 c1 hb hbi
        rw [strsTo_all _ _ (by simpa using HX.out)] at hg
        obtain ⟨M, hM⟩ : ∃ M, M = digs s ++ [58] := ⟨_, rfl⟩
        rw [← hM] at hcat
        have hpt : partyText xs s = M ++ Lib.join (xs.map digs) [44] := by rw [hM]; rfl
        have hMl : M.length ≤ 7 := by rw [hM]; simp; omega
        clear hM
        go_wp2_with fail
        have hhold := hg.holds
        refine (join_any _ k k (xs.map digs) 44 _ (by simpa using hhold) (by simpa using HX.out) (by omega) (Nat.le_refl _) (by have := HLE.out; simp at this; omega)).mono ?_
        rintro e w3 ⟨rfl, hbj⟩
        have hb3 := below_then hb2 hbj hb2.size
        clear hcat
        have hcat := cat_to M (Lib.join (xs.map digs) [44]) _ hpt (by omega) (by have := HLE.out; simp at this; omega)
        clear hbj hb2 hg hhold hpt
        go_wp2
        go_ret2
        exact ⟨by rw [HO.out, HP.out]; rfl, hb3⟩
end Go.Proofs.YtedkanncdkofaaaDoor

namespace Go.Proofs.YtedkanncdkofaaaDoor
/-- A beginning and the first k words behind it. -/
def wordsUp (p : List UInt8) (ws : List (List UInt8)) (s : UInt8) (k : Nat) : List UInt8 := p ++ Lib.join (ws.take k) [s]
theorem wordsUp_zero (p : List UInt8) (ws : List (List UInt8)) (s : UInt8) : wordsUp p ws s 0 = p := by simp [wordsUp, Lib.join_nil]
theorem wordsUp_one (p : List UInt8) (ws : List (List UInt8)) (s : UInt8) (k : Nat) (h : k < ws.length) (h0 : k = 0) : wordsUp p ws s (k + 1) = wordsUp p ws s k ++ ws[k] := by
  subst h0
  rw [wordsUp_zero, wordsUp, join_take ws [s] 0 h]
  simp [Lib.join_nil]
theorem wordsUp_next (p : List UInt8) (ws : List (List UInt8)) (s : UInt8) (k : Nat) (h : k < ws.length) (h0 : k ≠ 0) : wordsUp p ws s (k + 1) = wordsUp p ws s k ++ [s] ++ ws[k] := by
  rw [wordsUp, join_take ws [s] k h, if_neg h0, wordsUp]
  simp [List.append_assoc]
theorem wordsUp_end (p : List UInt8) (ws : List (List UInt8)) (s : UInt8) (n : Nat) (h : ws.length = n) : wordsUp p ws s n = p ++ Lib.join ws [s] := by rw [wordsUp, List.take_of_length_le (by omega)]
theorem wordsUp_le (p : List UInt8) (ws : List (List UInt8)) (s : UInt8) (k m : Nat) (h : ∀ x ∈ ws, x.length ≤ m) : (wordsUp p ws s k).length ≤ p.length + ws.length * (m + 1) := by
  have := join_take_le ws [s] m k h
  simp only [List.length_singleton] at this
  rw [wordsUp, List.length_append]
  omega
end Go.Proofs.YtedkanncdkofaaaDoor

namespace Go.Proofs.YtedkanncdkofaaaDoor
open Go.RowKit

/-- A clue as a word. -/
def clueText (c : Cl) : List UInt8 := digs c.1 ++ [46] ++ digs c.2.1 ++ [46] ++ digs c.2.2
/-- The text of a puzzle. -/
def puzzleText (p : Int) (cs : List Cl) : List UInt8 := digs p ++ [58] ++ Lib.join (cs.map clueText) [44]
/-- What PuzzleText tells. -/
def puzzleTextOf (p : Int) (cs : List Cl) : List UInt8 := if pzOk p cs then puzzleText p cs else []
/-- The numbers of a clue can be told. -/
def ClNum (c : Cl) : Prop := (0 ≤ c.1 ∧ c.1 < 1000000) ∧ (0 ≤ c.2.1 ∧ c.2.1 < 1000000) ∧ (0 ≤ c.2.2 ∧ c.2.2 < 1000000)
theorem clueText_le {c : Cl} (h : ClNum c) : (clueText c).length ≤ 20 := by
  have h1 := digs_le h.1.2
  have h2 := digs_le h.2.1.2
  have h3 := digs_le h.2.2.2
  simp only [clueText, List.length_append, List.length_singleton]
  omega
theorem clsText_le {cs : List Cl} (h : ∀ c ∈ cs, ClNum c) : ∀ x ∈ cs.map clueText, x.length ≤ 20 := by
  intro x hx
  obtain ⟨c, hc, rfl⟩ := List.mem_map.1 hx
  exact clueText_le (h c hc)
theorem pzOk_nums {p : Int} {cs : List Cl} (h : pzOk p cs = true) : cs.length ≤ 6 ∧ (0 ≤ p ∧ p < 1000000) ∧ ∀ c ∈ cs, ClNum c := by
  simp only [pzOk, within, Bool.and_eq_true, decide_eq_true_eq, List.all_eq_true] at h
  obtain ⟨h1, h2, h3⟩ := h
  refine ⟨h2, by omega, fun c hc => ?_⟩
  have h4 := h3 c hc
  simp only [clOk, within] at h4
  unfold ClNum
  repeat' split at h4
  all_goals (simp at h4 <;> omega)
/-- The three texts of a clue put together, step by step. -/
structure ClSteps (c : Cl) (M1 M2 M3 : List UInt8) : Prop where
  one : ∀ W, (Op.stringOp .add (strOf (digs c.1)) (strOf [46])).run Tryd.prog W = .ok (.string (strOf M1)) W
  two : ∀ W, (Op.stringOp .add (strOf M1) (strOf (digs c.2.1))).run Tryd.prog W = .ok (.string (strOf M2)) W
  three : ∀ W, (Op.stringOp .add (strOf M2) (strOf [46])).run Tryd.prog W = .ok (.string (strOf M3)) W
  four : ∀ W, (Op.stringOp .add (strOf M3) (strOf (digs c.2.2))).run Tryd.prog W = .ok (.string (strOf (clueText c))) W
theorem clSteps {c : Cl} (h : ClNum c) : ∃ M1 M2 M3, ClSteps c M1 M2 M3 := by
  have h1 := digs_le h.1.2
  have h2 := digs_le h.2.1.2
  have h3 := digs_le h.2.2.2
  exact ⟨_, _, _, cat_to _ _ _ rfl (by omega) (by simp), cat_to _ _ _ rfl (by simp; omega) (by omega), cat_to _ _ _ rfl (by simp; omega) (by simp), cat_to _ _ _ rfl (by simp; omega) (by omega)⟩

set_option maxHeartbeats 3200000 in
set_option maxRecDepth 100000 in
theorem clueText_any (a b d : Int) (w : World) (h : ClNum (a, b, d)) (hT : Tab w) :
    Calls Tryd.prog 103 #[.agg #[.int .i64 a, .int .i64 b, .int .i64 d]] w (StrPost (clueText (a, b, d)) w) := by
  obtain ⟨M1, M2, M3, hS⟩ := clSteps h
  obtain ⟨ha, hb, hd⟩ := h
  obtain ⟨s1, s2, s3, s4⟩ := hS
  dsimp only at s1 s2 s3 s4 ha hb hd
  have h0 := Whole.fresh w 121 #[.int .i64 a, .int .i64 b, .int .i64 d]
  obtain ⟨c0, c1, c2⟩ := h0.cells3
  have ht := below1 w (.cells #[.int .i64 a, .int .i64 b, .int .i64 d] 121)
  generalize clueText (a, b, d) = R at s4 ⊢
  go_enter Tryd.func103, Tryd.ntmps103
  go_wp2_with fail
  go_region_held3 (fun w' => w'.cell? ⟨w.heap.size, 0, none⟩ = some (.int .i64 a) ∧ w'.cell? ⟨w.heap.size, 1, none⟩ = some (.int .i64 b) ∧ w'.cell? ⟨w.heap.size, 2, none⟩ = some (.int .i64 d)) (go_keep)
    (first | (go_at_call 63; refine (itoa_any a _ (hT.below ht.drew) ha.1 (by omega)).mono ?_; rintro e w1 ⟨rfl, hb1⟩; have ht1 := below_then ht.drew hb1 ht.size; obtain ⟨k0, k1, k2⟩ := (h0.drew.below hb1).cells3) | (go_at_call 63; refine (itoa_any b _ (hT.below ht1) hb.1 (by omega)).mono ?_; rintro e w2 ⟨rfl, hb2⟩; have ht2 := below_then ht1 hb2 ht1.size; obtain ⟨l0, l1, l2⟩ := ((h0.drew.below hb1).below hb2).cells3) | (go_at_call 63; refine (itoa_any d _ (hT.below ht2) hd.1 (by omega)).mono ?_; rintro e w3 ⟨rfl, hb3⟩; have ht3 := below_then ht2 hb3 ht2.size; obtain ⟨m0, m1, m2⟩ := (((h0.drew.below hb1).below hb2).below hb3).cells3))
  go_wp2
  go_ret
  exact ⟨rfl, ht3⟩

/-- A row of the call's own lies on where nothing is turned below. -/
theorem own_belowT {w w' : World} {base : Nat} {e : TypeId} {size : Nat} {v : Value} {n : Nat} {xs : List Value} (h : w.ownsRow base e size v n xs) (hb : Below w.heap.size w w') : w'.ownsRow base e size v n xs := by
  obtain ⟨hl, h | ⟨g, cap, cur, hv, hg, hh, r⟩⟩ := h
  · exact ⟨hl, .inl h⟩
  · exact ⟨hl, .inr ⟨g, cap, cur, hv, hg, (hb.block g (Array.getElem?_eq_some_iff.1 hh).1).trans hh, r⟩⟩
theorem own_shapeT {w : World} {base : Nat} {e : TypeId} {size : Nat} {v : Value} {n : Nat} {xs : List Value} (h : w.ownsRow base e size v n xs) : ∃ A c, v = .slice A n c := by
  obtain ⟨-, ⟨hv, hn⟩ | ⟨g, cap, cur, hv, -⟩⟩ := h
  · exact ⟨none, 0, by rw [hv, hn]⟩
  · exact ⟨_, _, hv⟩
theorem own_holdsT {w : World} {base : Nat} {e : TypeId} {T : Option Addr} {n c : Nat} {xs : List Value} (h : w.ownsRow base e 1 (.slice T n c) n xs) : Holds w T xs ∧ n ≤ c := by
  obtain ⟨hl, ⟨hv, hn⟩ | ⟨g, cap, cur, hv, -, hh, h1, h2, h3, h4⟩⟩ := h
  · subst hn
    exact ⟨.inl (List.eq_nil_of_length_eq_zero (by simpa using hl)), Nat.zero_le _⟩
  · obtain ⟨rfl, rfl⟩ : T = some ⟨g, 0, none⟩ ∧ c = cap := by simpa using hv
    have hw : Whole w g e cur := hh
    refine ⟨.inr ⟨g, 0, rfl, hw.lt, fun j u hu => ?_⟩, h1⟩
    have hj : j < xs.length := (List.getElem?_eq_some_iff.1 hu).1
    rw [Nat.zero_add, hw.cell j, ← hu, ← h4, List.getElem?_take_of_lt (by omega), Array.getElem?_toList]
theorem cell_one_newT (w : World) (v : Value) (e : TypeId) : ∀ j u, [v][j]? = some u → (w.alloc (.cells #[v] e)).cell? ((⟨w.heap.size, 0, none⟩ : Addr).add j) = some u := by
  intro j u hu
  cases j with
  | zero =>
    simp at hu
    subst hu
    exact (Whole.fresh w e #[v]).cell 0
  | succ j => simp at hu

set_option maxHeartbeats 3200000 in
set_option maxRecDepth 100000 in
theorem pzText_any (q : Int) (A : Option Addr) (n c : Nat) (cs : List Cl) (w : World) (hA : Holds w A (clsC cs)) (hx : cs.length = n) (hn : n ≤ 6) (hs : 0 ≤ q ∧ q < 1000000) (ht : ∀ c ∈ cs, ClNum c) :
    Calls Tryd.prog 100 #[.agg #[.int .i64 q, .slice A n c]] w (StrPost (puzzleText q cs) w) := by
  have HX := Lib.hid hx
  have HT := Lib.hid ht
  have HS := Lib.hid hs
  have hl6 := digs_le hs.2
  have HML := Lib.hid (show (cs.map clueText).length = n by simpa using hx)
  have HUL := Lib.hid (fun k => wordsUp_le (digs q ++ [58]) (cs.map clueText) 44 k 20 (clsText_le ht))
  have h0 := Whole.fresh w 78 #[.int .i64 q, .slice A n c]
  obtain ⟨c0, c1⟩ := h0.cells2
  have ht0 := below1 w (.cells #[.int .i64 q, .slice A n c] 78)
  clear hx ht hs
  go_enter Tryd.func100, Tryd.ntmps100
  go_wp2_with fail
  refine (l1Num_any q _ HS.out.1 HS.out.2).mono ?_
  rintro e w1 ⟨rfl, hb⟩
  have ht := below_then ht0 hb (by simp)
  replace h0 := h0.below hb
  clear hb ht0 c0 c1
  obtain ⟨c0, c1⟩ := h0.cells2
  have hcat := cat_to (digs q) [58] (wordsUp (digs q ++ [58]) (cs.map clueText) 44 0) (wordsUp_zero _ _ _) (by omega) (by simp)
  have HP := Lib.hid (show (digs q ++ [58]).length ≤ 7 by simp; omega)
  clear hl6
  go_wp2
  clear hcat
  go_loopw [3, 13] (fun v i wr => ∃ k : Nat, k ≤ n ∧ i = .int .i64 k ∧ v = .string (strOf (wordsUp (digs q ++ [58]) (cs.map clueText) 44 k)) ∧ Below w.heap.size w wr) (fun _ i _ => n - (intOf i).toNat)
  case atStart => exact ⟨0, Nat.zero_le _, rfl, rfl, ht⟩
  case round =>
    obtain ⟨k, hk, rfl, rfl, ht⟩ := hrel
    clear c0 c1 h0
    have hlen := HUL.out k
    rw [HML.out] at hlen
    replace hlen : (wordsUp (digs q ++ [58]) (cs.map clueText) 44 k).length ≤ 200 := by have := HP.out; omega
    by_cases hlt : k < n
    · have hkx : k < cs.length := by have := HX.out; omega
      have hkm : k < (cs.map clueText).length := by have := HML.out; omega
      obtain ⟨b1, o1, rfl, hbl1, e0, e1, e2⟩ := cls_look (hA.below ht) hkx
      have hxk := HT.out cs[k] (List.getElem_mem hkx)
      have hd6 := clueText_le hxk
      have H1 := Lib.hid (wordsUp_one (digs q ++ [58]) (cs.map clueText) 44 k hkm)
      have HNX := Lib.hid (wordsUp_next (digs q ++ [58]) (cs.map clueText) 44 k hkm)
      rw [show (cs.map clueText)[k] = clueText cs[k] by simp] at H1 HNX
      generalize cs[k] = x at e0 e1 e2 hxk hd6 H1 HNX
      obtain ⟨x1, x2, x3⟩ := x
      dsimp only at e0 e1 e2
      generalize hL1 : wordsUp (digs q ++ [58]) (cs.map clueText) 44 (k + 1) = L1 at H1 HNX
      have HL1 := Lib.hid hL1
      clear hL1
      generalize wordsUp (digs q ++ [58]) (cs.map clueText) 44 k = L0 at H1 HNX hlen
      obtain ⟨M1, M2, M3, hS⟩ := clSteps hxk
      obtain ⟨ha, hb, hd⟩ := hxk
      obtain ⟨s1, s2, s3, s4⟩ := hS
      dsimp only at s1 s2 s3 s4 ha hb hd
      generalize clueText (x1, x2, x3) = R at s4 hd6 H1 HNX
      have h2 := Whole.fresh wr 121 #[.int .i64 x1, .int .i64 x2, .int .i64 x3]
      have hts := ht.size
      replace ht := ht.alloc ht.size (.cells #[.int .i64 x1, .int .i64 x2, .int .i64 x3] 121)
      obtain ⟨f0, f1, f2⟩ := h2.cells3
      rcases Nat.eq_zero_or_pos k with h1 | h1
      · have hnx := H1.out h1
        have hkz : ¬ ((k : Int) > 0) := by omega
        have s5 := cat_to L0 R L1 hnx (by omega) (by omega)
        clear hlen h1 hnx H1 HNX
        go_wp2_with fail
        go_region_held3 (fun w' => w'.cell? ⟨wr.heap.size, 0, none⟩ = some (.int .i64 x1) ∧ w'.cell? ⟨wr.heap.size, 1, none⟩ = some (.int .i64 x2) ∧ w'.cell? ⟨wr.heap.size, 2, none⟩ = some (.int .i64 x3)) (go_keep)
          (first | (go_at_call 112; with_reducible refine (l1Num_any x1 _ ha.1 ha.2).mono ?_; rintro e w1 ⟨rfl, hb1⟩; have ht1 := below_then ht.drew hb1 ht.drew.size; obtain ⟨k10, k11, k12⟩ := (h2.drew.below hb1).cells3) | (go_at_call 112; with_reducible refine (l1Num_any x2 _ hb.1 hb.2).mono ?_; rintro e w2 ⟨rfl, hb2⟩; have ht2 := below_then ht1 hb2 ht1.size; obtain ⟨k20, k21, k22⟩ := ((h2.drew.below hb1).below hb2).cells3) | (go_at_call 112; with_reducible refine (l1Num_any x3 _ hd.1 hd.2).mono ?_; rintro e w3 ⟨rfl, hb3⟩; have ht3 := below_then ht2 hb3 ht2.size; obtain ⟨k30, k31, k32⟩ := (((h2.drew.below hb1).below hb2).below hb3).cells3))
        clear h2 f0 f1 f2 e0 e1 e2 hA
        go_wp2
        go_roundw
        case rel => exact ⟨k + 1, by omega, by go_num, by rw [HL1.out], ht3⟩
        case measure => simp [intOf]; omega
      · have hnx := HNX.out (by omega)
        obtain ⟨M, hM⟩ : ∃ M, M = L0 ++ [44] := ⟨_, rfl⟩
        rw [← hM] at hnx
        have hMl : M.length ≤ 201 := by rw [hM]; simp; omega
        have hkz : (k : Int) > 0 := by omega
        have s0 := cat_to L0 [44] M hM (by omega) (by simp)
        have s5 := cat_to M R L1 hnx (by omega) (by omega)
        clear hlen h1 hnx H1 HNX hM hMl
        go_wp2_with fail
        go_region_held3 (fun w' => w'.cell? ⟨wr.heap.size, 0, none⟩ = some (.int .i64 x1) ∧ w'.cell? ⟨wr.heap.size, 1, none⟩ = some (.int .i64 x2) ∧ w'.cell? ⟨wr.heap.size, 2, none⟩ = some (.int .i64 x3)) (go_keep)
          (first | (go_at_call 112; with_reducible refine (l1Num_any x1 _ ha.1 ha.2).mono ?_; rintro e w1 ⟨rfl, hb1⟩; have ht1 := below_then ht.drew hb1 ht.drew.size; obtain ⟨k10, k11, k12⟩ := (h2.drew.below hb1).cells3) | (go_at_call 112; with_reducible refine (l1Num_any x2 _ hb.1 hb.2).mono ?_; rintro e w2 ⟨rfl, hb2⟩; have ht2 := below_then ht1 hb2 ht1.size; obtain ⟨k20, k21, k22⟩ := ((h2.drew.below hb1).below hb2).cells3) | (go_at_call 112; with_reducible refine (l1Num_any x3 _ hd.1 hd.2).mono ?_; rintro e w3 ⟨rfl, hb3⟩; have ht3 := below_then ht2 hb3 ht2.size; obtain ⟨k30, k31, k32⟩ := (((h2.drew.below hb1).below hb2).below hb3).cells3))
        clear h2 f0 f1 f2 e0 e1 e2 hA
        go_wp2
        go_roundw
        case rel => exact ⟨k + 1, by omega, by go_num, by rw [HL1.out], ht3⟩
        case measure => simp [intOf]; omega
    · obtain rfl : k = n := by omega
      have HE := Lib.hid (wordsUp_end (digs q ++ [58]) (cs.map clueText) 44 k HML.out)
      go_wp2
      go_ret
      exact ⟨by rw [HE.out]; rfl, ht⟩
end Go.Proofs.YtedkanncdkofaaaDoor

namespace Go.Proofs.YtedkanncdkofaaaDoor
open Go.RowKit

set_option maxHeartbeats 1600000 in
set_option maxRecDepth 100000 in
theorem specPuzzleText_any (q : Int) (A : Option Addr) (n c : Nat) (cs : List Cl) (w : World) (hA : Holds w A (clsC cs)) (hx : cs.length = n) (hn : n ≤ 1048576) :
    Calls Tryd.prog 50 #[.agg #[.int .i64 q, .slice A n c]] w (TextPost (puzzleTextOf q cs) (pzOk q cs) w) := by
  have HX := Lib.hid hx
  have hA2 := hA.alloc (.cells #[.int .i64 q, .slice A n c] 78)
  have h0 := Whole.fresh w 78 #[.int .i64 q, .slice A n c]
  obtain ⟨c0, c1⟩ := h0.cells2
  have ht0 := below1 w (.cells #[.int .i64 q, .slice A n c] 78)
  clear hx
  go_enter Tryd.func50, Tryd.ntmps50
  go_wp2_with fail
  refine (pzGood_any q A n c cs _ hA2 HX.out (by omega)).mono ?_
  rintro e w1 ⟨rfl, hb⟩
  have ht := below_then ht0 hb (by simp)
  replace h0 := h0.below hb
  replace hA2 := hA2.below hb
  clear hb ht0 c0 c1
  obtain ⟨c0, c1⟩ := h0.cells2
  cases hp : pzOk q cs
  · have HO := Lib.hid (show puzzleTextOf q cs = [] by rw [puzzleTextOf, hp]; rfl)
    have HP := Lib.hid hp
    clear hp
    go_wp2
    go_ret2
    exact ⟨by rw [HO.out, HP.out]; rfl, ht⟩
  · have HO := Lib.hid (show puzzleTextOf q cs = puzzleText q cs by rw [puzzleTextOf, hp]; rfl)
    obtain ⟨h6, hs, hcl⟩ := pzOk_nums hp
    have HP := Lib.hid hp
    have HCL := Lib.hid hcl
    clear hp hcl
    go_wp2_with fail
    refine (pzText_any q A n c cs _ hA2 HX.out (by have := HX.out; omega) hs HCL.out).mono ?_
    rintro e w2 ⟨rfl, hb⟩
    replace ht := below_then ht hb ht.size
    clear hb c0 c1
    go_wp2
    go_ret2
    exact ⟨by rw [HO.out, HP.out]; rfl, ht⟩

theorem whole_apartT {w w' : World} {q : Nat} {ty : TypeId} {cs : Array Value} {row : Option Nat} (h : Whole w q ty cs) (hg : w.grownBy w' row) (hne : some q ≠ row) : Whole w' q ty cs := (hg.block q h.lt hne).trans h
theorem strs_snoc (xs : List (List UInt8)) (x : List UInt8) : strs xs ++ [.string (strOf x)] = strs (xs ++ [x]) := by simp [strs]
set_option maxHeartbeats 3200000 in
set_option maxRecDepth 100000 in
theorem implPuzzleText_any (q : Int) (A : Option Addr) (n c : Nat) (cs : List Cl) (w : World) (hA : Holds w A (clsC cs)) (hx : cs.length = n) (hn : n ≤ 1048576) (hT : Tab w) :
    Calls Tryd.prog 52 #[.agg #[.int .i64 q, .slice A n c]] w (TextPost (puzzleTextOf q cs) (pzOk q cs) w) := by
  have HX := Lib.hid hx
  have hA2 := hA.alloc (.cells #[.int .i64 q, .slice A n c] 78)
  have h0 := Whole.fresh w 78 #[.int .i64 q, .slice A n c]
  obtain ⟨c0, c1⟩ := h0.cells2
  have ht0 := below1 w (.cells #[.int .i64 q, .slice A n c] 78)
  clear hx
  go_enter Tryd.func52, Tryd.ntmps52
  go_wp2_with fail
  refine (isPuzzle_any q A n c cs _ hA2 HX.out hn).mono ?_
  rintro e w1 ⟨rfl, hb⟩
  have ht := below_then ht0 hb (by simp)
  replace h0 := h0.below hb
  clear hb ht0 c0 c1 hA2
  obtain ⟨c0, c1⟩ := h0.cells2
  cases hp : pzOk q cs
  · have HO := Lib.hid (show puzzleTextOf q cs = [] by rw [puzzleTextOf, hp]; rfl)
    have HP := Lib.hid hp
    clear hp
    go_wp2
    go_ret2
    exact ⟨by rw [HO.out, HP.out]; rfl, ht⟩
  · have HO := Lib.hid (show puzzleTextOf q cs = puzzleText q cs by rw [puzzleTextOf, hp]; rfl)
    obtain ⟨h6, hs, hcl⟩ := pzOk_nums hp
    rw [HX.out] at h6
    have HP := Lib.hid hp
    have HCL := Lib.hid hcl
    have hl6 := digs_le hs.2
    have HML := Lib.hid (show (cs.map clueText).length = n by simpa using HX.out)
    have hle := join_le (cs.map clueText) [44] 20 (clsText_le hcl)
    rw [HML.out] at hle
    have HLE := Lib.hid (show (Lib.join (cs.map clueText) [44]).length ≤ 200 by simp at hle; omega)
    have hwz : w.heap.size ≤ w1.heap.size := ht.size
    have hbl0 := h0.lt
    obtain ⟨i0, hi, hz0, hz1, hz2⟩ := info_parts info_string
    have HI := Lib.hid hi
    have HZ0 := Lib.hid hz0
    have HZ1 := Lib.hid hz1
    have HZ2 := Lib.hid hz2
    clear hp hcl hle hi hz0 hz1 hz2
    go_wp2
    go_loopw [4, 13] (fun v i wr => ∃ (k : Nat) (G : Option Addr) (z : Nat), k ≤ n ∧ i = .int .i64 k ∧ v = .slice G k z ∧ wr.ownsRow w1.heap.size 9 1 (.slice G k z) k (strs ((cs.map clueText).take k)) ∧ Whole wr w.heap.size 78 #[.int .i64 q, .slice A n c] ∧ Below w.heap.size w wr ∧ w1.heap.size ≤ wr.heap.size) (fun _ i _ => n - (intOf i).toNat)
    case atStart => exact ⟨0, none, 0, Nat.zero_le _, rfl, rfl, World.ownsRow_nil _ _ _ _, h0, ht, Nat.le_refl _⟩
    case round =>
      obtain ⟨k, G, z, hk, rfl, rfl, hown, hq, hb, hsz⟩ := hrel
      clear c0 c1 h0 ht
      by_cases hlt : k < n
      · have hkx : k < cs.length := by have := HX.out; omega
        have hkm : k < (cs.map clueText).length := by have := HML.out; omega
        obtain ⟨b1, o1, rfl, hbl1, e0, e1, e2⟩ := cls_look (hA.below hb) hkx
        have hxk := HCL.out cs[k] (List.getElem_mem hkx)
        have HNX := Lib.hid (List.take_succ_eq_append_getElem hkm)
        rw [show (cs.map clueText)[k] = clueText cs[k] by simp] at HNX
        generalize cs[k] = x at e0 e1 e2 hxk HNX
        obtain ⟨x1, x2, x3⟩ := x
        dsimp only at e0 e1 e2
        have h2 := Whole.fresh wr 121 #[.int .i64 x1, .int .i64 x2, .int .i64 x3]
        obtain ⟨f0, f1, f2⟩ := h2.cells3
        have hwl := hb.size
        replace hb := hb.alloc hb.size (.cells #[.int .i64 x1, .int .i64 x2, .int .i64 x3] 121)
        replace hq := hq.alloc (.cells #[.int .i64 x1, .int .i64 x2, .int .i64 x3] 121)
        replace hown := hown.alloc (.cells #[.int .i64 x1, .int .i64 x2, .int .i64 x3] 121)
        go_wp2_with fail
        refine (clueText_any x1 x2 x3 _ hxk (hT.below hb)).mono ?_
        rintro e w2 ⟨rfl, hbi⟩
        generalize clueText (x1, x2, x3) = R at HNX ⊢
        have hsz2 : w1.heap.size ≤ w2.heap.size := by have := hbi.size; simp at this; omega
        have hown2 := (own_belowT hown hbi).alloc (.cells #[.string (strOf R)] 9)
        have hq2 := hq.below hbi
        have hb2 := below_then hb hbi (by simp; omega)
        have HOW := Lib.hid hown2
        have HBB := Lib.hid (hb2.alloc hb2.size (.cells #[.string (strOf R)] 9))
        have HQ := Lib.hid (hq2.alloc (.cells #[.string (strOf R)] 9))
        have HBASE := Lib.hid (show w1.heap.size ≤ (w2.alloc (.cells #[.string (strOf R)] 9)).heap.size by simp; omega)
        have HMAX := Lib.hid (show k + 1 ≤ maxLen by unfold maxLen; omega)
        have HBYT := Lib.hid (show (k + 1) * 16 ≤ 140737488355328 by omega)
        have hbl := hq.lt
        clear hown hown2 hb hb2 hbi hq hq2 e0 e1 e2 f0 f1 f2 h2 hA hxk
        go_wp2_with (at_builtin; refine wpList_append_own _ rfl (.tmp 17) (.tmp 20) 89 rfl w1.heap.size 9 i0 (.string ByteArray.empty) 1 16 Tryd.underlying89 HI.out HZ0.out HZ1.out HZ2.out rfl (by decide) (.slice G k z) k (strs ((cs.map clueText).take k)) rfl HOW.out ⟨w2.heap.size, 0, none⟩ 1 1 [.string (strOf R)] rfl rfl (cell_one_newT _ _ _) (by simp [Value.oneCell']) HMAX.out HBYT.out HBASE.out ?_; intro v' w3 hown1 hg1 _; obtain ⟨D, y, hv'⟩ := own_shapeT hown1; rw [hv'] at hown1 ⊢; clear hv')
        have hrow : ∀ y, (.slice G k z : Value).ownBlock = some y → w1.heap.size ≤ y := fun y hy => (HOW.out.lt y hy).1
        have HBN := Lib.hid (HBB.out.grown hg1 HBB.out.size (fun y hy => Nat.le_trans hwz (hrow y hy)))
        have HQN := Lib.hid (whole_apartT HQ.out hg1 (fun e => absurd (hrow _ e.symm) (by omega)))
        rw [strs_snoc, ← HNX.out] at hown1
        have HON := Lib.hid hown1
        have HSZ := Lib.hid (Nat.le_trans HBASE.out hg1.size)
        clear hg1 hown1 hrow
        go_roundw
        case rel => exact ⟨k + 1, D, y, by omega, by go_num, rfl, HON.out, HQN.out, HBN.out, HSZ.out⟩
        case measure => simp [intOf]; omega
      · obtain rfl : k = n := by omega
        rw [List.take_of_length_le (by rw [HML.out]; exact Nat.le_refl _)] at hown
        obtain ⟨c0, c1⟩ := hq.cells2
        go_wp2_with fail
        refine (itoa_any q _ (hT.below hb) hs.1 (by omega)).mono ?_
        rintro e w2 ⟨rfl, hbi⟩
        replace hown := own_belowT hown hbi
        have hb2 := below_then hb hbi hb.size
        clear hq c0 c1 hb hbi
        obtain ⟨M, hM⟩ : ∃ M, M = digs q ++ [58] := ⟨_, rfl⟩
        have hcat := cat_to (digs q) [58] M hM (by omega) (by simp)
        have hpt : puzzleText q cs = M ++ Lib.join (cs.map clueText) [44] := by rw [hM]; rfl
        have hMl : M.length ≤ 7 := by rw [hM]; simp; omega
        clear hM
        obtain ⟨hhold, hcap⟩ := own_holdsT hown
        go_wp2_with fail
        refine (join_any _ k z (cs.map clueText) 44 _ hhold HML.out (by omega) hcap (by have := HLE.out; omega)).mono ?_
        rintro e w3 ⟨rfl, hbj⟩
        have hb3 := below_then hb2 hbj hb2.size
        clear hcat
        have hcat := cat_to M (Lib.join (cs.map clueText) [44]) _ hpt (by omega) (by have := HLE.out; omega)
        clear hbj hb2 hown hhold hpt
        go_wp2
        go_ret2
        exact ⟨by rw [HO.out, HP.out]; rfl, hb3⟩
end Go.Proofs.YtedkanncdkofaaaDoor

namespace Go.Proofs.YtedkanncdkofaaaDoor
open Go.RowKit

set_option maxHeartbeats 800000 in
set_option linter.unusedVariables false in
theorem lawPuzzleText_big0 (k0 : Int) (A0 : Option Addr) (n0 c0 : Nat) (x0 : List Cl) (w : World) (h0 : Holds w A0 (clsC x0)) (hx0 : x0.length = n0) (hn0 : n0 ≤ 9223372036854775807) (hT : Tab w)  (hbig : 1048576 - (n0 : Int) < 0) :
    Calls Tryd.prog 11 #[.agg #[.int .i64 k0, .slice A0 n0 c0]] w fun e w' => e = .returned (.bool true) ∧ Below w.heap.size w w' := by
  have hb0 := (Whole.fresh w 73 #[.int .i64 k0, .slice A0 n0 c0])
  have ht := below1 w (.cells #[.int .i64 k0, .slice A0 n0 c0] 73)
  have HX0 := Lib.hid hx0
  clear hx0
  obtain ⟨hb0_0, hb0_1⟩ := hb0.cells2
  have hb0_l := hb0.lt
  go_enter Tryd.func11, Tryd.ntmps11
  go_wp2_with fail
  refine (szPuzzle_any k0 A0 n0 c0 (1048576) _ (by omega) (by omega) (by omega)).mono ?_
  rintro e v1 ⟨rfl, hb⟩
  rw [if_pos (by omega)]
  have hz1 : w.heap.size + 1 ≤ v1.heap.size := by have := hb.size; simpa using this
  replace ht := below_then ht hb ht.size
  replace hb0 := hb0.below hb
  clear hb
  clear hb0_0 hb0_1 hb0_l
  go_wp2
  go_ret
  exact ⟨rfl, ht⟩

set_option maxHeartbeats 12800000 in
set_option maxRecDepth 100000 in
set_option linter.unusedSimpArgs false in
set_option linter.unusedVariables false in
theorem lawPuzzleText_small (k0 : Int) (A0 : Option Addr) (n0 c0 : Nat) (x0 : List Cl) (w : World) (h0 : Holds w A0 (clsC x0)) (hx0 : x0.length = n0) (hn0 : n0 ≤ 9223372036854775807) (hT : Tab w) (g0 : 0 ≤ 1048576 - (n0 : Int)) :
    Calls Tryd.prog 11 #[.agg #[.int .i64 k0, .slice A0 n0 c0]] w fun e w' => e = .returned (.bool true) ∧ Below w.heap.size w w' := by
  have hb0 := (Whole.fresh w 73 #[.int .i64 k0, .slice A0 n0 c0])
  have ht := below1 w (.cells #[.int .i64 k0, .slice A0 n0 c0] 73)
  have HX0 := Lib.hid hx0
  clear hx0
  obtain ⟨hb0_0, hb0_1⟩ := hb0.cells2
  have hb0_l := hb0.lt
  go_enter Tryd.func11, Tryd.ntmps11
  -- region 2
  go_wp2_with fail
  refine (szPuzzle_any k0 A0 n0 c0 (1048576) _ (by omega) (by omega) (by omega)).mono ?_
  rintro e v1 ⟨rfl, hb⟩
  rw [if_neg (by omega)]
  have hz1 : w.heap.size + 1 ≤ v1.heap.size := by have := hb.size; simpa using this
  replace ht := below_then ht hb ht.size
  replace hb0 := hb0.below hb
  clear hb
  clear hb0_0 hb0_1 hb0_l
  obtain ⟨hb0_0, hb0_1⟩ := hb0.cells2
  have hb0_l := hb0.lt
  -- region 5
  go_wp2_with fail
  refine (toPuzzle_own k0 A0 n0 c0 x0 _ (by exact h0.below ht) HX0.out (by omega)).mono ?_
  rintro e v2 ⟨gp0, rfl, hgp0, hwp0, hb⟩
  have hz2 : v1.heap.size ≤ v2.heap.size := by have := hb.size; simpa using this
  replace ht := below_then ht hb ht.size
  replace hb0 := hb0.below hb
  have hp0 := Fresh.of_whole (lo := v1.heap.size) (hi := v2.heap.size) hwp0 (by simpa using hgp0) hwp0.lt
  clear hgp0 hwp0
  clear hb
  clear hb0_0 hb0_1 hb0_l
  obtain ⟨hb0_0, hb0_1⟩ := hb0.cells2
  have hb0_l := hb0.lt
  go_wp2_with fail
  refine (specPuzzleText_any k0 _ n0 _ x0 _ (by exact hp0.holds) HX0.out (by omega)).mono ?_
  rintro e v3 ⟨rfl, hb⟩
  have hz3 : v2.heap.size ≤ v3.heap.size := by have := hb.size; simpa using this
  replace ht := below_then ht hb ht.size
  replace hb0 := hb0.below hb
  replace hp0 := hp0.below hb
  clear hb
  clear hp0
  clear hb0_0 hb0_1 hb0_l
  obtain ⟨hb0_0, hb0_1⟩ := hb0.cells2
  have hb0_l := hb0.lt
  -- region 6
  go_wp2_with fail
  refine (toPuzzle_own k0 A0 n0 c0 x0 _ (by exact h0.below ht) HX0.out (by omega)).mono ?_
  rintro e v4 ⟨gx0, rfl, hgx0, hwx0, hb⟩
  have hz4 : v3.heap.size ≤ v4.heap.size := by have := hb.size; simpa using this
  replace ht := below_then ht hb ht.size
  replace hb0 := hb0.below hb
  have hx0 := Fresh.of_whole (lo := v3.heap.size) (hi := v4.heap.size) hwx0 (by simpa using hgx0) hwx0.lt
  clear hgx0 hwx0
  clear hb
  have hx90 := Whole.fresh v4 78 #[.int .i64 k0, .slice (some ⟨gx0, 0, none⟩) n0 n0]
  replace ht := ht.alloc ht.size (.cells #[.int .i64 k0, .slice (some ⟨gx0, 0, none⟩) n0 n0] 78)
  replace hb0 := hb0.alloc (.cells #[.int .i64 k0, .slice (some ⟨gx0, 0, none⟩) n0 n0] 78)
  replace hx0 := hx0.alloc (.cells #[.int .i64 k0, .slice (some ⟨gx0, 0, none⟩) n0 n0] 78)
  clear hb0_0 hb0_1 hb0_l
  obtain ⟨hb0_0, hb0_1⟩ := hb0.cells2
  have hb0_l := hb0.lt
  obtain ⟨hx90_0, hx90_1⟩ := hx90.cells2
  have hx90_l := hx90.lt
  -- region 7
  go_wp2_with fail
  refine (implPuzzleText_any k0 _ n0 _ x0 _ (by exact hx0.holds) HX0.out (by omega) (hT.below ht)).mono ?_
  rintro e v5 ⟨rfl, hb⟩
  have hz5 : v4.heap.size + 1 ≤ v5.heap.size := by have := hb.size; simpa using this
  replace ht := below_then ht hb ht.size
  replace hb0 := hb0.below hb
  replace hx0 := hx0.below hb
  replace hx90 := hx90.below hb
  clear hb
  clear hb0_0 hb0_1 hb0_l hx90_0 hx90_1 hx90_l
  obtain ⟨hb0_0, hb0_1⟩ := hb0.cells2
  have hb0_l := hb0.lt
  obtain ⟨hx90_0, hx90_1⟩ := hx90.cells2
  have hx90_l := hx90.lt
  -- region 10
  clear hb0_0 hb0_1 hb0_l hx90_0 hx90_1 hx90_l
  go_wp2_with fail
  refine wp_region_held_drew (S := (fun w' => w'.cell? ⟨w.heap.size, 0, none⟩ = some (.int .i64 k0) ∧ w'.cell? ⟨w.heap.size, 1, none⟩ = some (.slice A0 n0 c0) ∧ w'.cell? ⟨v4.heap.size, 0, none⟩ = some (.int .i64 k0) ∧ w'.cell? ⟨v4.heap.size, 1, none⟩ = some (.slice (some ⟨gx0, 0, none⟩) n0 n0))) (by kernel_rfl) ⟨hb0.drew.cell 0, hb0.drew.cell 1, hx90.drew.cell 0, hx90.drew.cell 1⟩ (fun hHeld => ?_)
  replace ht := ht.drew
  replace hb0 := hb0.drew
  replace hx0 := hx0.drew
  replace hx90 := hx90.drew
  refine wpAnyH_take (i := 0) (v := ?_) rfl (by kernel_rfl) (by kernel_rfl) (by kernel_rfl) (fun _ _ _ h => h) (Or.inl ⟨rfl, ?_⟩) hHeld ?_
  rotate_left
  · intro w' hS; obtain ⟨s0, s1, s2, s3⟩ := hS; go_simp <;> with_reducible rfl
  simp only [Act.put, List.getElem_toArray, List.getElem_cons_succ, List.getElem_cons_zero, List.setIfInBounds_toArray, List.set_cons_succ, List.set_cons_zero]
  refine wpAnyH_take (i := 1) (v := ?_) rfl (by kernel_rfl) (by kernel_rfl) (by kernel_rfl) (fun _ _ _ h => h) (Or.inl ⟨rfl, ?_⟩) hHeld ?_
  rotate_left
  · intro w' hS; obtain ⟨s0, s1, s2, s3⟩ := hS; go_simp <;> with_reducible rfl
  simp only [Act.put, List.getElem_toArray, List.getElem_cons_succ, List.getElem_cons_zero, List.setIfInBounds_toArray, List.set_cons_succ, List.set_cons_zero]
  refine wpAnyH_ready (rs := [2]) (by kernel_rfl) (by simp) (AllReadyH.cons rfl (fun K hK => ?_) AllReadyH.nil)
  go_simp
  refine (toPuzzle_own k0 A0 n0 c0 x0 _ (by exact h0.below ht) HX0.out (by omega)).mono ?_
  rintro e v6 ⟨gy0, rfl, hgy0, hwy0, hb⟩
  have hz6 : v5.heap.size ≤ v6.heap.size := by have := hb.size; simpa using this
  replace ht := below_then ht hb ht.size
  replace hb0 := hb0.below hb
  replace hx0 := hx0.below hb
  replace hx90 := hx90.below hb
  have hy0 := Fresh.of_whole (lo := v5.heap.size) (hi := v6.heap.size) hwy0 (by simpa using hgy0) hwy0.lt
  clear hgy0 hwy0
  clear hb
  refine hK.out _ _ ⟨hb0.cell 0, hb0.cell 1, hx90.cell 0, hx90.cell 1⟩ (fun hHeld => ?_)
  clear hK K
  try simp only [Act.put, List.getElem_toArray, List.getElem_cons_succ, List.getElem_cons_zero, List.setIfInBounds_toArray, List.set_cons_succ, List.set_cons_zero]
  refine wpAnyH_ready (rs := [3]) (by kernel_rfl) (by simp) (AllReadyH.cons rfl (fun K hK => ?_) AllReadyH.nil)
  go_simp
  refine (eqPuzzle_yes _ _ n0 _ _ x0 k0 _ (by exact hx0.holds) (by exact hy0.holds) HX0.out (by omega)).mono ?_
  rintro e v7 ⟨rfl, hb⟩
  have hz7 : v6.heap.size ≤ v7.heap.size := by have := hb.size; simpa using this
  replace ht := below_then ht hb ht.size
  replace hb0 := hb0.below hb
  replace hx0 := hx0.below hb
  replace hx90 := hx90.below hb
  replace hy0 := hy0.below hb
  clear hb
  clear hy0
  refine hK.out _ _ ⟨hb0.cell 0, hb0.cell 1, hx90.cell 0, hx90.cell 1⟩ (fun hHeld => ?_)
  clear hK K
  try simp only [Act.put, List.getElem_toArray, List.getElem_cons_succ, List.getElem_cons_zero, List.setIfInBounds_toArray, List.set_cons_succ, List.set_cons_zero]
  refine wpAnyH_take (i := 4) (v := ?_) rfl (by kernel_rfl) (by kernel_rfl) (by kernel_rfl) (fun _ _ _ h => h) (Or.inl ⟨rfl, ?_⟩) hHeld ?_
  rotate_left
  · intro w' hS; obtain ⟨s0, s1, s2, s3⟩ := hS; go_simp <;> with_reducible rfl
  simp only [Act.put, List.getElem_toArray, List.getElem_cons_succ, List.getElem_cons_zero, List.setIfInBounds_toArray, List.set_cons_succ, List.set_cons_zero]
  refine wpAnyH_done (by kernel_rfl) ?_ _
  clear hHeld
  obtain ⟨hb0_0, hb0_1⟩ := hb0.cells2
  have hb0_l := hb0.lt
  obtain ⟨hx90_0, hx90_1⟩ := hx90.cells2
  have hx90_l := hx90.lt
  go_wp2
  go_ret
  exact ⟨rfl, ht⟩

theorem lawPuzzleText_all (k0 : Int) (A0 : Option Addr) (n0 c0 : Nat) (x0 : List Cl) (w : World) (h0 : Holds w A0 (clsC x0)) (hx0 : x0.length = n0) (hn0 : n0 ≤ 9223372036854775807) (hT : Tab w) :
    Calls Tryd.prog 11 #[.agg #[.int .i64 k0, .slice A0 n0 c0]] w fun e w' => e = .returned (.bool true) ∧ Below w.heap.size w w' := by
  rcases (inferInstance : Decidable (0 ≤ 1048576 - (n0 : Int))) with g0 | g0
  · exact lawPuzzleText_big0 k0 A0 n0 c0 x0 w h0 hx0 hn0 hT  (by omega)
  exact lawPuzzleText_small k0 A0 n0 c0 x0 w h0 hx0 hn0 hT g0
end Go.Proofs.YtedkanncdkofaaaDoor
