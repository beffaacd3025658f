/-
  What is proved: contracts of the laws' own helpers for lists of lists of numbers: their size, their copy, their comparison. Conditions: the given lists are read as they lie; a copy is of at most 1,048,576 numbers.
  What is proved: contracts of the laws' copy and comparison of lists of lists of numbers. Conditions: the given lists are read as they lie; a copy is of at most 1,048,576 numbers.
  What is proved: plain facts on keeps: dangers, their order, the dangers in a bank. Conditions: none.
  What is proved: contracts of the model's test of a keep (keGood) and of keBefore. Conditions: the lists are read as they lie.
  What is proved: contracts of the program's test of a keep (IsKeep), of isDanger and of slices.Compare on lists of two. Conditions: the lists are read as they lie.
  What is proved: contracts of IsDesk, of the model and of the program. Conditions: the desk's lists are read as they lie.
  What is proved: lists of lists of the call's own, and contracts of the laws' marks on them. Conditions: the rows are new, open to writes and apart from each other; counts are small.
  What is proved: contracts of the laws' own helpers for keeps: their size, their copy, their comparison, their marks. Conditions: the given lists are read as they lie; a copy is of at most 1,048,576 numbers.
  What is proved: contracts of the laws' functions on a desk: its size, its copy, that two of one reading are the same. Conditions: the lists are read as they lie.
-/
import Derived.Lib.Small
import Derived.Deep.DeepCutAuto
import Derived.Test.YtkocompjjogciaaJ1IsDesk
set_option linter.unusedSimpArgs false
set_option linter.unusedVariables false
namespace Go.Proofs.Ytkocompjjogciaa
open Go.RowKit

/-- One list among others: where it lies, its length, its room, its numbers. -/
structure RowV where
  A : Option Addr
  n : Nat
  c : Nat
  xs : List Int
def RowV.val (r : RowV) : Value := .slice r.A r.n r.c
def rowVals (rs : List RowV) : List Value := rs.map RowV.val
def rowNums (rs : List RowV) : List (List Int) := rs.map RowV.xs
theorem rowVals_len (rs : List RowV) : (rowVals rs).length = rs.length := by simp [rowVals]
theorem rowNums_len (rs : List RowV) : (rowNums rs).length = rs.length := by simp [rowNums]
def RowOk (w : World) (r : RowV) : Prop := Holds w r.A (nums r.xs) ∧ r.xs.length = r.n ∧ r.n ≤ 9223372036854775807
/-- From A on the world holds these lists. -/
def Grid (w : World) (A : Option Addr) (rs : List RowV) : Prop := Holds w A (rowVals rs) ∧ ∀ r ∈ rs, RowOk w r
theorem RowOk.below {w w' : World} {r : RowV} (h : RowOk w r) (hb : Below w.heap.size w w') : RowOk w' r := ⟨h.1.below hb, h.2⟩
theorem Grid.below {w w' : World} {A : Option Addr} {rs : List RowV} (h : Grid w A rs) (hb : Below w.heap.size w w') : Grid w' A rs := ⟨h.1.below hb, fun r hr => (h.2 r hr).below hb⟩
theorem Grid.alloc {w : World} {A : Option Addr} {rs : List RowV} (h : Grid w A rs) (o : Obj) : Grid (w.alloc o) A rs := h.below (below1 w o)
theorem Grid.drew {w : World} {A : Option Addr} {rs : List RowV} (h : Grid w A rs) : Grid w.drew A rs := h
theorem Grid.look {w : World} {A : Option Addr} {rs : List RowV} (h : Grid w A rs) {k : Nat} (hk : k < rs.length) :
    ∃ b o, A = some ⟨b, o, none⟩ ∧ b < w.heap.size ∧ w.cell? ⟨b, o + k, none⟩ = some (.slice rs[k].A rs[k].n rs[k].c) ∧ RowOk w rs[k] := by
  obtain ⟨b, o, hA, hb, hc⟩ := h.1.look (k := k) (by rw [rowVals_len]; exact hk)
  refine ⟨b, o, hA, hb, ?_, h.2 _ (List.getElem_mem hk)⟩
  rw [hc]
  simp [rowVals, RowV.val]

/-- The lengths of the first k lists together. -/
def part (rs : List RowV) (k : Nat) : Nat := ((rs.take k).map RowV.n).sum
/-- The length and all lengths together. -/
def total (rs : List RowV) : Nat := rs.length + part rs rs.length
theorem part_zero (rs : List RowV) : part rs 0 = 0 := rfl
theorem part_next {rs : List RowV} {k : Nat} (hk : k < rs.length) : part rs (k + 1) = part rs k + rs[k].n := by
  rw [part, part, List.take_succ_eq_append_getElem hk, List.map_append, List.sum_append]
  simp
theorem part_le {rs : List RowV} : ∀ {k : Nat}, k ≤ rs.length → ∀ {j : Nat}, j ≤ k → part rs j ≤ part rs k
  | 0, _, j, hj => by obtain rfl : j = 0 := by omega
                      exact Nat.le_refl _
  | k + 1, hk, j, hj => by
    rcases Nat.lt_or_ge j (k + 1) with h | h
    · have h1 := part_le (rs := rs) (k := k) (by omega) (j := j) (by omega)
      have h2 := part_next (rs := rs) (k := k) (by omega)
      omega
    · obtain rfl : j = k + 1 := by omega
      exact Nat.le_refl _
theorem total_row {rs : List RowV} {k : Nat} (hk : k < rs.length) : rs[k].n ≤ total rs := by
  have h1 := part_next hk
  have h2 := part_le (rs := rs) (Nat.le_refl _) (j := k + 1) (by omega)
  unfold total
  omega
theorem total_len (rs : List RowV) : rs.length ≤ total rs := by unfold total; omega
def totalLeft (rs : List RowV) (l : Int) : Int := if l < (total rs : Int) then -1 else l - (total rs : Int)
theorem totalLeft_no {rs : List RowV} {l : Int} {k : Nat} (hk : k ≤ rs.length) (h : l < (rs.length : Int) + (part rs k : Int)) : totalLeft rs l = -1 := by
  have h2 := part_le (rs := rs) (Nat.le_refl _) (j := k) hk
  rw [totalLeft, if_pos (by unfold total; omega)]
theorem totalLeft_yes {rs : List RowV} {l : Int} (h : (rs.length : Int) + (part rs rs.length : Int) ≤ l) : totalLeft rs l = l - ((rs.length : Int) + (part rs rs.length : Int)) := by
  rw [totalLeft, if_neg (by unfold total; omega)]
  unfold total
  omega

set_option maxHeartbeats 800000 in
theorem szIntSS_any (A : Option Addr) (n c : Nat) (rs : List RowV) (l : Int) (w : World) (hA : Grid w A rs) (hx : rs.length = n) (hn : n ≤ 9223372036854775807) (h0 : 0 ≤ l) (h1 : l ≤ 1048576) :
    Calls Try.prog 45 #[.slice A n c, .int .i64 l] w fun e w' => e = .returned (.int .i64 (totalLeft rs l)) ∧ w = w' := by
  subst hx
  by_cases h : l < rs.length
  · have h' : l - rs.length < 0 := by omega
    have HN := Lib.hid (totalLeft_no (rs := rs) (k := 0) (l := l) (Nat.zero_le _) (by rw [part_zero]; omega))
    go_enter Try.func45, Try.ntmps45
    go_wp2
    go_ret
    exact ⟨ret_of (by rw [HN.out]; rfl), rfl⟩
  · have h' : ¬ l - rs.length < 0 := by omega
    go_enter Try.func45, Try.ntmps45
    go_wp2
    go_loop [1, 5] (fun v i => ∃ (k : Nat) (x : Int), k ≤ rs.length ∧ i = .int .i64 k ∧ v = .int .i64 x ∧ 0 ≤ x ∧ x ≤ 1048576 ∧ x + (rs.length : Int) + (part rs k : Int) = l) (fun _ i => rs.length - (intOf i).toNat)
    case atStart => exact ⟨0, _, Nat.zero_le _, rfl, rfl, by omega, by omega, by rw [part_zero]; omega⟩
    case round =>
      obtain ⟨k, x, hk, rfl, rfl, hx0, hx1, hl⟩ := hrel
      by_cases hlt : k < rs.length
      · obtain ⟨b, o, rfl, hb, hc, hok⟩ := hA.look hlt
        have hp := part_next hlt
        by_cases hs : x < rs[k].n
        · have HN := Lib.hid (totalLeft_no (rs := rs) (k := k + 1) (l := l) (by omega) (by omega))
          clear hl hp h h'
          go_wp2_with (go_at_call 76; refine (szIntS_any _ _ _ _ _ hok.2.2 hx0 hx1).mono ?_; rintro e w' ⟨rfl, rfl⟩; rw [if_pos hs])
          go_ret
          exact ⟨ret_of (by rw [HN.out]; rfl), rfl⟩
        · have hl2 : x - rs[k].n + (rs.length : Int) + (part rs (k + 1) : Int) = l := by omega
          have HL := Lib.hid hl2
          have hx2 : 0 ≤ x - (rs[k].n : Int) := by omega
          have hx3 : x - (rs[k].n : Int) ≤ 1048576 := by omega
          clear hl hp h h' hl2
          go_wp2_with (go_at_call 76; refine (szIntS_any _ _ _ _ _ hok.2.2 hx0 hx1).mono ?_; rintro e w' ⟨rfl, rfl⟩; rw [if_neg hs])
          go_round
          case rel => exact ⟨k + 1, _, by omega, by go_num, rfl, hx2, hx3, HL.out⟩
          case measure => simp [intOf]; omega
      · have hkn : k = rs.length := by omega
        subst hkn
        have HN := Lib.hid (totalLeft_yes (rs := rs) (l := l) (by omega))
        have HV := Lib.hid (show x = l - ((rs.length : Int) + (part rs rs.length : Int)) by omega)
        clear hl h h'
        go_wp2
        go_ret
        exact ⟨ret_of (by rw [HN.out, ← HV.out]; rfl), rfl⟩
end Go.Proofs.Ytkocompjjogciaa

namespace Go.Proofs.Ytkocompjjogciaa
open Go.RowKit

/-- Lists of the call's own, each in blocks behind those of the one before. -/
def OwnRows (w : World) : Nat → Nat → List RowV → Prop
  | lo, hi, [] => lo ≤ hi
  | lo, hi, r :: rs => ∃ mid, lo ≤ mid ∧ Fresh w lo mid 3 r.A (nums r.xs) ∧ r.xs.length = r.n ∧ r.n ≤ 1048576 ∧ OwnRows w mid hi rs
theorem OwnRows.le {w : World} : ∀ {rs : List RowV} {lo hi : Nat}, OwnRows w lo hi rs → lo ≤ hi
  | [], _, _, h => h
  | _ :: _, _, _, ⟨_, h1, _, _, _, h2⟩ => Nat.le_trans h1 h2.le
theorem OwnRows.more {w : World} : ∀ {rs : List RowV} {lo hi hi' : Nat}, OwnRows w lo hi rs → hi ≤ hi' → OwnRows w lo hi' rs
  | [], _, _, _, h, h' => Nat.le_trans h h'
  | _ :: _, _, _, _, ⟨m, h1, hf, hl, hn, h2⟩, h' => ⟨m, h1, hf, hl, hn, h2.more h'⟩
theorem OwnRows.below {w w' : World} (hb : Below w.heap.size w w') : ∀ {rs : List RowV} {lo hi : Nat}, OwnRows w lo hi rs → OwnRows w' lo hi rs
  | [], _, _, h => h
  | _ :: _, _, _, ⟨m, h1, hf, hl, hn, h2⟩ => ⟨m, h1, hf.below hb, hl, hn, h2.below hb⟩
theorem OwnRows.set_out {w : World} {b o : Nat} {u : Value} : ∀ {rs : List RowV} {lo hi : Nat}, OwnRows w lo hi rs → (b < lo ∨ hi ≤ b) → OwnRows (w.setCell ⟨b, o, none⟩ u) lo hi rs
  | [], _, _, h, _ => h
  | _ :: _, _, _, ⟨m, h1, hf, hl, hn, h2⟩, hd => ⟨m, h1, hf.set_out (by have := h2.le; omega), hl, hn, h2.set_out (by omega)⟩
theorem OwnRows.snoc {w : World} {r : RowV} : ∀ {rs : List RowV} {lo mid hi : Nat}, OwnRows w lo mid rs → mid ≤ hi → Fresh w mid hi 3 r.A (nums r.xs) → r.xs.length = r.n → r.n ≤ 1048576 → OwnRows w lo hi (rs ++ [r])
  | [], _, _, hi, h, hm, hf, hl, hn => ⟨hi, Nat.le_trans h hm, hf.more h (Nat.le_refl _), hl, hn, Nat.le_refl _⟩
  | _ :: _, _, _, _, ⟨m, h1, hg, hk, ho, h2⟩, hm, hf, hl, hn => ⟨m, h1, hg, hk, ho, h2.snoc hm hf hl hn⟩
theorem OwnRows.ok {w : World} : ∀ {rs : List RowV} {lo hi : Nat}, OwnRows w lo hi rs → ∀ r ∈ rs, RowOk w r
  | [], _, _, _, _, hr => by cases hr
  | r :: rs, _, _, ⟨_, _, hf, hl, hn, h2⟩, x, hx => by
    rcases List.mem_cons.1 hx with rfl | hx
    · exact ⟨hf.holds, hl, by omega⟩
    · exact h2.ok x hx
/-- Lists of lists of the call's own: block g tells where they lie, the lists are behind it and before hi. -/
def OwnGrid (w : World) (g hi : Nat) (rs : List RowV) : Prop := Whole w g 22 (rowVals rs).toArray ∧ OwnRows w (g + 1) hi rs
theorem OwnGrid.grid {w : World} {g hi : Nat} {rs : List RowV} (h : OwnGrid w g hi rs) : Grid w (some ⟨g, 0, none⟩) rs :=
  ⟨h.1.holds, h.2.ok⟩
theorem OwnGrid.below {w w' : World} {g hi : Nat} {rs : List RowV} (h : OwnGrid w g hi rs) (hb : Below w.heap.size w w') : OwnGrid w' g hi rs := ⟨h.1.below hb, h.2.below hb⟩
theorem OwnGrid.alloc {w : World} {g hi : Nat} {rs : List RowV} (h : OwnGrid w g hi rs) (o : Obj) : OwnGrid (w.alloc o) g hi rs := h.below (below1 w o)
theorem OwnGrid.drew {w : World} {g hi : Nat} {rs : List RowV} (h : OwnGrid w g hi rs) : OwnGrid w.drew g hi rs := h.below ⟨rfl, rfl, rfl, Nat.le_refl _, fun _ _ => rfl⟩

/-- What stands in the copy's block behind k rounds. -/
def filledR (ws : List RowV) (n : Nat) : Array Value := (rowVals ws ++ List.replicate (n - ws.length) (Value.slice none 0 0)).toArray
theorem filledR_done {ws : List RowV} {n : Nat} (h : ws.length = n) : filledR ws n = (rowVals ws).toArray := by simp [filledR, h]
theorem filledR_at {ws : List RowV} {n : Nat} (h : ws.length < n) : (filledR ws n)[ws.length]? = some (.slice none 0 0) := by
  simp only [filledR, List.getElem?_toArray]
  rw [List.getElem?_append_right (by rw [rowVals_len]; omega)]
  simp [rowVals_len, List.getElem?_replicate]
  omega
theorem filledR_next {ws : List RowV} {n : Nat} (r : RowV) (h : ws.length < n) : (filledR ws n).setIfInBounds ws.length r.val = filledR (ws ++ [r]) n := by
  obtain ⟨m, hm⟩ : ∃ m, n - ws.length = m + 1 := ⟨n - ws.length - 1, by omega⟩
  have hm' : n - (ws ++ [r]).length = m := by simp; omega
  unfold filledR
  rw [hm, hm', List.replicate_succ]
  simp only [rowVals, List.map_append, List.map_cons, List.map_nil, List.append_assoc, List.singleton_append]
  rw [List.setIfInBounds_toArray]
  congr 1
  rw [List.set_append_right _ _ (by simp)]
  simp
theorem made_rows (n : Nat) : madeCells (Value.slice none 0 0).cells (n * 1) = (List.replicate n (Value.slice none 0 0)).toArray := by
  apply Array.ext_getElem?
  intro j
  simp [madeCells, Value.cells, Nat.mod_one, Array.getElem?_range]
  by_cases h : j < n <;> simp [h]
theorem info_row : (Try.prog.info? 22).map (fun i => (i.zero, i.size, i.bytes)) = some (some (.slice none 0 0), 1, 24) := by kernel_rfl

/-- What toIntSS hands back. -/
def GridPost (n : Nat) (rs : List RowV) (w : World) (e : Ending) (w' : World) : Prop :=
  ∃ (g : Nat) (ws : List RowV), e = .returned (.slice (some ⟨g, 0, none⟩) n n) ∧ w.heap.size ≤ g ∧ OwnGrid w' g w'.heap.size ws ∧ rowNums ws = rowNums rs ∧ ws.length = n ∧ Below w.heap.size w w'

theorem rowNums_next {ws rs : List RowV} {k : Nat} {r : RowV} (h : rowNums ws = (rowNums rs).take k) (hk : k < rs.length) (hr : r.xs = rs[k].xs) : rowNums (ws ++ [r]) = (rowNums rs).take (k + 1) := by
  rw [List.take_succ_eq_append_getElem (by rw [rowNums_len]; exact hk), ← h]
  simp [rowNums, hr]

set_option maxHeartbeats 800000 in
theorem toIntSS_any (A : Option Addr) (n c : Nat) (rs : List RowV) (w : World) (hA : Grid w A rs) (hx : rs.length = n) (ht : total rs ≤ 1048576) :
    Calls Try.prog 47 #[.slice A n c] w (GridPost n rs w) := by
  have hn : n ≤ 1048576 := by have := total_len rs; omega
  obtain ⟨i0, hi, hz0, hz1, hz2⟩ := info_parts info_row
  have hmk : ∀ W : World, (Instr.makeSlice 28 (.int .i64 (n : Int)) (.int .i64 (n : Int))).run Try.prog W = .ok (.slice (some ⟨W.heap.size, 0, none⟩) n n) (W.alloc (.cells (filledR [] n) 22)) := by
    intro W
    have h := run_make (P := Try.prog) W 28 22 i0 _ Try.underlying28 hi hz0 .i64 .i64 n n (by omega) (by omega) (by rw [hz2]; omega) (by omega)
    simp only [Int.toNat_natCast, hz1, made_rows] at h
    rw [h]
    simp [filledR, rowVals]
  have HX := Lib.hid hx
  clear hi hz0 hz1 hz2 hx
  go_enter Try.func47, Try.ntmps47
  go_wp2
  have h0 := Whole.fresh w 22 (filledR [] n)
  have hb0 : Below w.heap.size w (w.alloc (.cells (filledR [] n) 22)) := (Below.refl _ _).alloc (Nat.le_refl _) _
  go_loopw [4] (fun i wr => ∃ (k : Nat) (ws : List RowV), k ≤ n ∧ i = .int .i64 k ∧ ws.length = k ∧ Whole wr w.heap.size 22 (filledR ws n) ∧ Below w.heap.size w wr ∧ OwnRows wr (w.heap.size + 1) wr.heap.size ws ∧ rowNums ws = (rowNums rs).take k) (fun i _ => n - (intOf i).toNat)
  case atStart => exact ⟨0, [], Nat.zero_le _, rfl, rfl, h0, hb0, by simp [OwnRows], rfl⟩
  case round =>
    obtain ⟨k, ws, hk, rfl, hlen, hw, hb, hown, hnums⟩ := hrel
    clear hmk h0 hb0
    subst hlen
    have HNUM := Lib.hid hnums
    have hwl := hw.lt
    by_cases hlt : ws.length < n
    · have hkr : ws.length < rs.length := by have := HX.out; omega
      obtain ⟨b, o, rfl, hbl, hc, hok⟩ := (hA.below hb).look hkr
      have hsz : rs[ws.length].n ≤ 1048576 := Nat.le_trans (total_row hkr) ht
      clear hnums
      go_wp2_with fail
      refine (toIntS_own _ _ _ rs[ws.length].xs _ hok.1 hok.2.1 hsz).mono ?_
      rintro e w1 ⟨g1, rfl, hg1, hw1, hb1⟩
      have hF := Fresh.of_whole (lo := wr.heap.size) (hi := w1.heap.size) hw1 hg1 hw1.lt
      have hwz : wr.heap.size ≤ w1.heap.size := hb1.size
      have hown1 := (hown.below hb1).snoc (r := ⟨some ⟨g1, 0, none⟩, rs[ws.length].n, rs[ws.length].n, rs[ws.length].xs⟩) hwz hF hok.2.1 hsz
      have hown2 := hown1.set_out (b := w.heap.size) (o := ws.length) (u := .slice (some ⟨g1, 0, none⟩) rs[ws.length].n rs[ws.length].n) (.inl (by omega))
      have hw2 := hw.below hb1
      have hcell : w1.cell? ⟨w.heap.size, ws.length, none⟩ = some (.slice none 0 0) := (hw2.cell _).trans (filledR_at hlt)
      have hfr := hw2.open_ ws.length
      have hnext := hw2.set_ ws.length (.slice (some ⟨g1, 0, none⟩) rs[ws.length].n rs[ws.length].n)
      rw [show (Value.slice (some ⟨g1, 0, none⟩) rs[ws.length].n rs[ws.length].n) = RowV.val ⟨some ⟨g1, 0, none⟩, rs[ws.length].n, rs[ws.length].n, rs[ws.length].xs⟩ from rfl, filledR_next _ hlt] at hnext
      have hbw := below_then hb hb1 hb.size
      have HNX := Lib.hid (rowNums_next (r := ⟨some ⟨g1, 0, none⟩, rs[ws.length].n, rs[ws.length].n, rs[ws.length].xs⟩) HNUM.out hkr rfl)
      have HO := Lib.hid hown2
      have HN := Lib.hid hnext
      clear hown hown1 hown2 hnext hw hw2 hF hb hc hw1 hok
      go_wp2
      go_roundw
      case rel => exact ⟨ws.length + 1, _, by omega, by go_num, by simp, HN.out, hbw.setCell (Nat.le_refl _) _, by simpa [World.setCell] using HO.out, HNX.out⟩
      case measure => simp [intOf]; omega
    · have hkn : ws.length = n := by omega
      rw [filledR_done hkn] at hw
      have HK := Lib.hid hkn
      clear hnums hkn
      go_wp2
      go_ret
      exact ⟨w.heap.size, ws, rfl, Nat.le_refl _, ⟨hw, hown⟩, by rw [HNUM.out, List.take_of_length_le (by rw [rowNums_len, HX.out, HK.out]; exact Nat.le_refl _)], HK.out, hb⟩

/-- Two lists of one reading are the same; nothing but draws. -/
theorem eqIntS_drawn (A B : Option Addr) (n m c d : Nat) (xs ys : List Int) (w : World) (k : Nat) (hA : Holds (w.drewN k) A (nums xs)) (hB : Holds (w.drewN k) B (nums ys)) (hx : xs.length = n) (hy : ys.length = m) (he : xs = ys) (hn : n ≤ 9223372036854775807) :
    Calls Try.prog 36 #[.slice A n c, .slice B m d] (w.drewN k) fun e w'' => e = .returned (.bool true) ∧ ∃ q, w'' = w.drewN q :=
  Calls.quiet_of ((eqIntS_any A B n m c d xs ys _ hA hB hx hy hn (by subst he; omega)).mono fun _ _ ⟨h, q⟩ => ⟨by rw [h, sameInts_yes he], q⟩)

theorem rowNums_at {rs ss : List RowV} (h : rowNums rs = rowNums ss) {k : Nat} (hk : k < rs.length) (hk' : k < ss.length) : rs[k].xs = ss[k].xs := by
  have h1 := congrArg (fun l : List (List Int) => l[k]?) h
  simpa [rowNums, hk, hk'] using h1

set_option maxHeartbeats 800000 in
theorem eqIntSS_yes (A B : Option Addr) (n m c d : Nat) (rs ss : List RowV) (w : World) (hA : Grid w A rs) (hB : Grid w B ss) (he : rowNums rs = rowNums ss) (hx : rs.length = n) (hy : ss.length = m) (hn : n ≤ 9223372036854775807) :
    Calls Try.prog 26 #[.slice A n c, .slice B m d] w fun e w' => e = .returned (.bool true) ∧ Below w.heap.size w w' := by
  have hl : rs.length = ss.length := by rw [← rowNums_len rs, ← rowNums_len ss, he]
  subst hx hy
  have hl' : ((rs.length : Int) != (ss.length : Int)) = false := by simp [hl]
  have HL := Lib.hid hl
  have HE := Lib.hid he
  clear hl he
  go_enter Try.func26, Try.ntmps26
  go_wp2
  go_loopw [5] (fun i wr => ∃ k : Nat, k ≤ rs.length ∧ i = .int .i64 k ∧ Below w.heap.size w wr) (fun i _ => rs.length - (intOf i).toNat)
  case atStart => exact ⟨0, Nat.zero_le _, rfl, Below.refl _ _⟩
  case round =>
    obtain ⟨k, hk, rfl, hb⟩ := hrel
    by_cases hlt : k < rs.length
    · have hlt' : k < ss.length := by have := HL.out; omega
      obtain ⟨b, o, rfl, hbl, hc, hok⟩ := (hA.below hb).look hlt
      obtain ⟨b', o', rfl, hbl', hc', hok'⟩ := (hB.below hb).look hlt'
      have HV := Lib.hid (rowNums_at HE.out hlt hlt')
      go_wp2
      go_quiet ((go_at_call 36; exact eqIntS_drawn _ _ _ _ _ _ rs[k].xs ss[k].xs wr _ (hok.1.below (below_draws (Below.refl _ _) _)) (hok'.1.below (below_draws (Below.refl _ _) _)) hok.2.1 hok'.2.1 HV.out hok.2.2))
      go_wp2
      go_roundw
      case rel => exact ⟨k + 1, by omega, by go_num, below_draws hb _⟩
      case measure => simp [intOf]; omega
    · go_wp2
      go_ret
      exact ⟨rfl, hb⟩
end Go.Proofs.Ytkocompjjogciaa

namespace Go.Proofs.Ytkocompjjogciaa
open Go.RowKit

/-- A danger of two of so many things. -/
def IsDg (k : Int) (d : List Int) : Prop := d.length = 2 ∧ 0 ≤ d.getD 0 0 ∧ d.getD 0 0 < d.getD 1 0 ∧ d.getD 1 0 < k
/-- A danger comes before another one. -/
def BefD (a b : List Int) : Prop := a.getD 0 0 < b.getD 0 0 ∨ (a.getD 0 0 = b.getD 0 0 ∧ a.getD 1 0 < b.getD 1 0)
def DgStep (k : Int) (ds : List (List Int)) (j : Nat) : Prop := IsDg k (ds.getD j []) ∧ (j = 0 ∨ BefD (ds.getD (j - 1) []) (ds.getD j []))
def DgTo (k : Int) (ds : List (List Int)) (j : Nat) : Prop := ∀ i, i < j → DgStep k ds i
noncomputable def keepOk (k s : Int) (ds : List (List Int)) : Bool := by
  classical
  exact decide ((0 ≤ k ∧ k ≤ 8 ∧ 0 ≤ s ∧ s ≤ 8) ∧ DgTo k ds ds.length)
theorem keepOk_iff {k s : Int} {ds : List (List Int)} : keepOk k s ds = true ↔ (0 ≤ k ∧ k ≤ 8 ∧ 0 ≤ s ∧ s ≤ 8) ∧ DgTo k ds ds.length := by
  classical
  simp only [keepOk, decide_eq_true_eq]
theorem keepOk_out {k s : Int} {ds : List (List Int)} (h : ¬ (0 ≤ k ∧ k ≤ 8 ∧ 0 ≤ s ∧ s ≤ 8)) : keepOk k s ds = false := by
  cases e : keepOk k s ds
  · rfl
  · exact absurd (keepOk_iff.1 e).1 h
theorem keepOk_no {k s : Int} {ds : List (List Int)} {j : Nat} (hj : j < ds.length) (h : ¬ DgStep k ds j) : keepOk k s ds = false := by
  cases e : keepOk k s ds
  · rfl
  · exact absurd ((keepOk_iff.1 e).2 j hj) h
theorem keepOk_yes {k s : Int} {ds : List (List Int)} {j : Nat} (h : 0 ≤ k ∧ k ≤ 8 ∧ 0 ≤ s ∧ s ≤ 8) (hs : DgTo k ds j) (hj : ds.length ≤ j) : keepOk k s ds = true :=
  keepOk_iff.2 ⟨h, fun i hi => hs i (by omega)⟩
theorem DgTo.start (k : Int) (ds : List (List Int)) : DgTo k ds 0 := fun _ h => absurd h (by omega)
theorem DgTo.next {k : Int} {ds : List (List Int)} {j : Nat} (h : DgTo k ds j) (hs : DgStep k ds j) : DgTo k ds (j + 1) := fun i hi =>
  (Nat.lt_succ_iff_lt_or_eq.1 hi).elim (h i) (fun e => e ▸ hs)
theorem rising_dg {k : Int} {d : List Int} (hl : d.length = 2) : rising d (k - 1) = true ↔ IsDg k d := by
  constructor
  · intro h
    have hs := rising_steps h
    have h0 := hs 0 (by omega)
    have h1 := hs 1 (by omega)
    obtain ⟨a0, a1, -⟩ := h0
    obtain ⟨b0, b1, b2⟩ := h1
    refine ⟨hl, a0, ?_, by omega⟩
    rcases b2 with b2 | b2
    · cases b2
    · exact b2
  · rintro ⟨-, h0, h1, h2⟩
    refine rising_yes (k := 2) (fun j hj => ?_) (by omega)
    have : j = 0 ∨ j = 1 := by omega
    rcases this with rfl | rfl
    · exact ⟨h0, by omega, .inl rfl⟩
    · exact ⟨by omega, by omega, .inr h1⟩
theorem dg_at {k s : Int} {ds : List (List Int)} (h : keepOk k s ds = true) {j : Nat} (hj : j < ds.length) : IsDg k ds[j] := by
  have := ((keepOk_iff.1 h).2 j hj).1
  simpa [List.getD_eq_getElem?_getD, List.getElem?_eq_getElem hj] using this
/-- Both things of a danger are where the keeper is not. -/
def leftBy (bs : List Bool) (t : Bool) (d : List Int) : Bool := (bs.getD (d.getD 0 0).toNat false != t) && (bs.getD (d.getD 1 0).toNat false != t)
/-- The dangers in a bank. -/
def nowOf (bs : List Bool) (t : Bool) (ds : List (List Int)) : List (List Int) := ds.filter (leftBy bs t)
theorem nowOf_len (bs : List Bool) (t : Bool) (ds : List (List Int)) : (nowOf bs t ds).length ≤ ds.length := List.length_filter_le _ _
/-- A keep and a bank of it. -/
noncomputable def asked (k s : Int) (ds : List (List Int)) (bs : List Bool) : Bool := keepOk k s ds && decide ((bs.length : Int) = k)
theorem asked_parts {k s : Int} {ds : List (List Int)} {bs : List Bool} (h : asked k s ds bs = true) : keepOk k s ds = true ∧ (bs.length : Int) = k := by
  simpa [asked] using h
end Go.Proofs.Ytkocompjjogciaa

namespace Go.Proofs.Ytkocompjjogciaa
open Go.RowKit

/-- Does a danger come before another one? -/
noncomputable def befB (a b : List Int) : Bool := by
  classical
  exact decide (BefD a b)
theorem befB_yes {a b : List Int} (h : BefD a b) : befB a b = true := by classical simpa [befB] using h
theorem befB_no {a b : List Int} (h : ¬ BefD a b) : befB a b = false := by classical simpa [befB] using h

/-- The two numbers of a list, as they lie. -/
theorem two_at {w : World} {A : Option Addr} {d : List Int} (h : Holds w A (nums d)) (hl : d.length = 2) : ∃ b o, A = some ⟨b, o, none⟩ ∧ b < w.heap.size ∧ w.cell? ⟨b, o, none⟩ = some (.int .i64 (d.getD 0 0)) ∧ w.cell? ⟨b, o + 1, none⟩ = some (.int .i64 (d.getD 1 0)) := by
  obtain ⟨x, y, rfl⟩ : ∃ x y, d = [x, y] := by
    match d, hl with
    | [x, y], _ => exact ⟨x, y, rfl⟩
  rcases h with h | ⟨b, o, hA, hb, hc⟩
  · cases h
  · exact ⟨b, o, hA, hb, hc 0 _ rfl, hc 1 _ rfl⟩

set_option maxHeartbeats 1600000 in
theorem keBefore_any (A B : Option Addr) (n c m d : Nat) (x y : List Int) (w : World) (hA : Holds w A (nums x)) (hB : Holds w B (nums y)) (hx : x.length = 2) (hy : y.length = 2) (hn : n = 2) (hm : m = 2) :
    Calls Try.prog 171 #[.slice A n c, .slice B m d] w fun e w' => e = .returned (.bool (befB x y)) ∧ ∃ k, w' = w.drewN k := by
  subst hn hm
  obtain ⟨b, o, rfl, hb, a0, a1⟩ := two_at hA hx
  obtain ⟨b', o', rfl, hb', c0, c1⟩ := two_at hB hy
  have HY : Hid (BefD x y ↔ (x.getD 0 0 < y.getD 0 0 ∨ (x.getD 0 0 = y.getD 0 0 ∧ x.getD 1 0 < y.getD 1 0))) := Iff.rfl
  obtain ⟨p, hp⟩ : ∃ p : Prop, p = BefD x y := ⟨_, rfl⟩
  obtain ⟨q, hq⟩ : ∃ q : Bool, q = befB x y := ⟨_, rfl⟩
  have HYES : Hid (BefD x y → q = true) := fun h => by rw [hq]; exact befB_yes h
  have HNO : Hid (¬ BefD x y → q = false) := fun h => by rw [hq]; exact befB_no h
  rw [← hq]
  clear hp hq hA hB hx hy
  generalize x.getD 0 0 = x0 at *
  generalize y.getD 0 0 = y0 at *
  generalize x.getD 1 0 = x1 at *
  generalize y.getD 1 0 = y1 at *
  by_cases h1 : x0 < y0
  · have HQ : Hid (q = true) := HYES.out (HY.out.2 (by omega))
    have d1 : decide (x0 < y0) = true := by simp [h1]
    clear HYES HNO HY
    go_enter Try.func171, Try.ntmps171
    go_wp2
    go_quiet (fail)
    go_wp2
    go_ret
    exact ⟨ret_of (by rw [HQ.out]; first | rfl | simp), _, rfl⟩
  · by_cases h2 : x0 = y0
    · by_cases h3 : x1 < y1
      · have HQ : Hid (q = true) := HYES.out (HY.out.2 (by omega))
        have d1 : decide (x0 < y0) = false := by simp; omega
        have d2 : (x0 == y0) = true := by simp [h2]
        have d3 : decide (x1 < y1) = true := by simp [h3]
        clear HYES HNO HY
        go_enter Try.func171, Try.ntmps171
        go_wp2
        go_quiet (fail)
        go_wp2
        go_ret
        exact ⟨ret_of (by rw [HQ.out]; first | rfl | simp), _, rfl⟩
      · have HQ : Hid (q = false) := HNO.out (fun h => by have := HY.out.1 h; omega)
        have d1 : decide (x0 < y0) = false := by simp; omega
        have d2 : (x0 == y0) = true := by simp [h2]
        have d3 : decide (x1 < y1) = false := by simp; omega
        clear HYES HNO HY
        go_enter Try.func171, Try.ntmps171
        go_wp2
        go_quiet (fail)
        go_wp2
        go_ret
        exact ⟨ret_of (by rw [HQ.out]; first | rfl | simp), _, rfl⟩
    · have HQ : Hid (q = false) := HNO.out (fun h => by have := HY.out.1 h; omega)
      have d1 : decide (x0 < y0) = false := by simp; omega
      have d2 : (x0 == y0) = false := by simp [h2]
      clear HYES HNO HY
      go_enter Try.func171, Try.ntmps171
      go_wp2
      go_quiet (fail)
      go_wp2
      go_ret
      exact ⟨ret_of (by rw [HQ.out]; first | rfl | simp), _, rfl⟩

/-- A row of a grid, told at its place. -/
theorem grid_row {w : World} {A : Option Addr} {rs : List RowV} (h : Grid w A rs) {k : Nat} (hk : k < rs.length) : ∃ b o, A = some ⟨b, o, none⟩ ∧ b < w.heap.size ∧ w.cell? ⟨b, o + k, none⟩ = some (.slice rs[k].A rs[k].n rs[k].c) ∧ Holds w rs[k].A (nums rs[k].xs) ∧ rs[k].xs.length = rs[k].n ∧ rs[k].n ≤ 9223372036854775807 := by
  obtain ⟨b, o, rfl, hb, hc⟩ := h.1.look (k := k) (by rw [rowVals_len]; exact hk)
  have hok := h.2 rs[k] (List.getElem_mem hk)
  refine ⟨b, o, rfl, hb, ?_, hok.1, hok.2.1, hok.2.2⟩
  rw [hc]
  simp [rowVals, RowV.val]
theorem rows_at (rs : List RowV) {k : Nat} (hk : k < rs.length) : (rowNums rs).getD k [] = rs[k].xs := by
  simp [rowNums, hk]

set_option maxHeartbeats 3200000 in
set_option maxRecDepth 100000 in
theorem keGood_any (k s : Int) (A : Option Addr) (n c : Nat) (rs : List RowV) (w : World) (hA : Grid w A rs) (hx : rs.length = n) (hn : n ≤ 1048576) :
    Calls Try.prog 135 #[.agg #[.int .i64 k, .slice A n c, .int .i64 s]] w fun e w' => e = .returned (.bool (keepOk k s (rowNums rs))) ∧ Below w.heap.size w w' := by
  subst hx
  have HLS := Lib.hid (rowNums_len rs)
  have h0 := Lib.hid (Whole.fresh w 39 #[.int .i64 k, .slice A rs.length c, .int .i64 s])
  have hb1 := Lib.hid (below1 w (.cells #[.int .i64 k, .slice A rs.length c, .int .i64 s] 39))
  have HG := Lib.hid hA
  obtain ⟨f0, f1, f2⟩ := h0.out.cells3
  obtain ⟨q, hq⟩ : ∃ q : Bool, q = keepOk k s (rowNums rs) := ⟨_, rfl⟩
  rw [← hq]
  have HQ := Lib.hid hq
  clear hq hA
  cases hk : within k 0 8
  · have HQ2 : Hid (q = false) := by
      show _ = _
      rw [HQ.out]
      exact keepOk_out fun h => by rw [within_yes h.1 h.2.1] at hk; cases hk
    have HK := Lib.hid hk
    clear HQ hk
    go_enter Try.func135, Try.ntmps135
    go_wp2_with (go_at_call 128; refine (l1In_any _ _ _ _).mono ?_; rintro e w' ⟨rfl, rfl⟩; rw [HK.out])
    go_ret
    exact ⟨ret_of (by rw [HQ2.out]; rfl), hb1.out⟩
  · cases hs : within s 0 8
    · have HQ2 : Hid (q = false) := by
        show _ = _
        rw [HQ.out]
        exact keepOk_out fun h => by rw [within_yes h.2.2.1 h.2.2.2] at hs; cases hs
      have HK := Lib.hid hk
      have HS := Lib.hid hs
      clear HQ hk hs
      go_enter Try.func135, Try.ntmps135
      go_wp2_with (go_at_call 128; refine (l1In_any _ _ _ _).mono ?_; rintro e w' ⟨rfl, rfl⟩; first | rw [HK.out] | rw [HS.out])
      go_ret
      exact ⟨ret_of (by rw [HQ2.out]; rfl), hb1.out⟩
    · have hk2 := within_iff.1 hk
      have hs2 := within_iff.1 hs
      have HK := Lib.hid hk
      have HS := Lib.hid hs
      have HKS : Hid (0 ≤ k ∧ k ≤ 8 ∧ 0 ≤ s ∧ s ≤ 8) := ⟨hk2.1, hk2.2, hs2.1, hs2.2⟩
      have hkw : IntKind.i64.wrap (k - 1) = k - 1 := IntWalk.i64_in _ (by omega)
      clear hk hs
      go_enter Try.func135, Try.ntmps135
      go_wp2_with (go_at_call 128; refine (l1In_any _ _ _ _).mono ?_; rintro e w' ⟨rfl, rfl⟩; first | rw [HK.out] | rw [HS.out])
      go_loopw [18] (fun i wr => ∃ j : Nat, j ≤ rs.length ∧ i = .int .i64 j ∧ DgTo k (rowNums rs) j ∧ Whole wr w.heap.size 39 #[.int .i64 k, .slice A rs.length c, .int .i64 s] ∧ Below w.heap.size w wr) (fun i _ => rs.length - (intOf i).toNat)
      case atStart => exact ⟨0, Nat.zero_le _, rfl, DgTo.start _ _, h0.out, hb1.out⟩
      case round =>
        clear f0 f1 f2 h0 hb1
        obtain ⟨j, hj, rfl, hdt, h0, hb⟩ := hrel
        by_cases hlt : j < rs.length
        · have hg := HG.out.below hb
          obtain ⟨b, o, rfl, hbl, hcell, hrow, hrl, hrn⟩ := grid_row hg hlt
          have HAT := Lib.hid (rows_at rs hlt)
          obtain ⟨f0, f1, f2⟩ := h0.cells3
          obtain ⟨R, hR⟩ : ∃ R, R = rs[j] := ⟨_, rfl⟩
          rw [← hR] at hcell hrow hrl hrn HAT
          have HD := Lib.hid hdt
          have H0 := Lib.hid h0
          have HB := Lib.hid hb
          have HRW := Lib.hid hrow
          have HJ : Hid (j < (rowNums rs).length) := by show _ < _; rw [HLS.out]; exact hlt
          have HRL := Lib.hid hrl
          have HRN := Lib.hid hrn
          clear hg hdt h0 hb hrow hR hrl
          obtain ⟨rA, rn, rc, rxs⟩ := R
          replace hcell : World.cell? wr ⟨b, o + j, none⟩ = some (.slice rA rn rc) := hcell
          replace hrn : rn ≤ 9223372036854775807 := hrn
          have HRL2 : Hid (rxs.length = rn) := HRL.out
          have HRW2 : Hid (Holds wr rA (nums rxs)) := HRW.out
          have HAT2 : Hid ((rowNums rs).getD j [] = rxs) := HAT.out
          clear HRL HRW HAT HRN
          by_cases h2 : rn = 2
          · subst h2
            have hne : ((2 : Int) != 2) = false := by decide
            cases hr : rising rxs (k - 1)
            · have HN : Hid (q = false) := by
                show _ = _
                rw [HQ.out]
                refine keepOk_no HJ.out fun h => ?_
                have h1 := h.1
                rw [HAT2.out] at h1
                rw [(rising_dg HRL2.out).2 h1] at hr
                cases hr
              have HR := Lib.hid hr
              clear hr HQ
              go_wp2_with (go_at_call 148; refine (l1Rising_any _ _ _ rxs (k - 1) _ HRW2.out HRL2.out (by omega)).mono ?_; rintro e w' ⟨rfl, rfl⟩; rw [HR.out])
              go_ret
              exact ⟨ret_of (by rw [HN.out]; rfl), HB.out⟩
            · have HDG := Lib.hid ((rising_dg HRL2.out).1 hr)
              have HR := Lib.hid hr
              clear hr
              by_cases hj0 : j = 0
              · subst hj0
                have HST : Hid (DgTo k (rowNums rs) (0 + 1)) := HD.out.next ⟨by rw [HAT2.out]; exact HDG.out, .inl rfl⟩
                simp only [Nat.add_zero] at hcell
                go_wp2_with (go_at_call 148; refine (l1Rising_any _ _ _ rxs (k - 1) _ HRW2.out HRL2.out (by omega)).mono ?_; rintro e w' ⟨rfl, rfl⟩; rw [HR.out])
                go_roundw
                case rel => exact ⟨1, by omega, by go_num, HST.out, H0.out, HB.out⟩
                case measure => simp [intOf]; omega
              · have hlt1 : j - 1 < rs.length := by omega
                obtain ⟨b', o', hA', hbl', hcell', hrow', hrl', hrn'⟩ := grid_row (HG.out.below HB.out) hlt1
                simp only [Option.some.injEq, Addr.mk.injEq] at hA'
                obtain ⟨rfl, rfl, -⟩ := hA'
                have HDG' : Hid (IsDg k rs[j - 1].xs) := by
                  have h := (HD.out (j - 1) (by omega)).1
                  rw [rows_at rs hlt1] at h
                  exact h
                have HAT' := Lib.hid (rows_at rs hlt1)
                obtain ⟨R', hR'⟩ : ∃ R, R = rs[j - 1] := ⟨_, rfl⟩
                rw [← hR'] at hcell' hrow' hrl' hrn' HDG' HAT'
                obtain ⟨rA', rn', rc', rxs'⟩ := R'
                replace hcell' : World.cell? wr ⟨b, o + (j - 1), none⟩ = some (.slice rA' rn' rc') := hcell'
                have HRL' : Hid (rxs'.length = 2) := HDG'.out.1
                obtain rfl : rn' = 2 := by have h1 : rxs'.length = rn' := hrl'; have := HRL'.out; omega
                have HRW' : Hid (Holds wr rA' (nums rxs')) := hrow'
                have HAT3 : Hid ((rowNums rs).getD (j - 1) [] = rxs') := HAT'.out
                clear hrow' hrl' hrn' hR' HDG' HAT'
                have hkp : decide ((0 : Int) < (j : Int)) = true := by simp; omega
                have hkp2 : (0 : Int) < (j : Int) := by omega
                have htn : ((j : Int) - 1).toNat = j - 1 := by omega
                have hjw : IntKind.i64.wrap ((j : Int) - 1) = (j : Int) - 1 := IntWalk.i64_in _ (by omega)
                have hji : (0 : Int) ≤ (j : Int) - 1 := by omega
                have hjl : (j : Int) - 1 < (rs.length : Int) := by omega
                cases hbf : befB rxs' rxs
                · have HN : Hid (q = false) := by
                    show _ = _
                    rw [HQ.out]
                    refine keepOk_no HJ.out fun h => ?_
                    rcases h.2 with h1 | h1
                    · exact hj0 h1
                    · rw [HAT2.out, HAT3.out] at h1
                      rw [befB_yes h1] at hbf
                      cases hbf
                  have HF := Lib.hid hbf
                  clear hbf HQ
                  go_wp2_with (first | (go_at_call 148; refine (l1Rising_any _ _ _ rxs (k - 1) _ HRW2.out HRL2.out (by omega)).mono ?_; rintro e w' ⟨rfl, rfl⟩; rw [HR.out]) | (go_at_call 171; refine (keBefore_any _ _ _ _ _ _ rxs' rxs _ HRW'.out HRW2.out HRL'.out HRL2.out rfl rfl).mono ?_; rintro e w' ⟨rfl, kk, rfl⟩; rw [HF.out]))
                  go_ret
                  exact ⟨ret_of (by rw [HN.out]; rfl), below_draws HB.out kk⟩
                · have HST : Hid (DgTo k (rowNums rs) (j + 1)) := HD.out.next ⟨by rw [HAT2.out]; exact HDG.out, .inr (by
                    rw [HAT2.out, HAT3.out]
                    exact Classical.byContradiction fun h => by rw [befB_no h] at hbf; cases hbf)⟩
                  have HF := Lib.hid hbf
                  clear hbf
                  go_wp2_with (first | (go_at_call 148; refine (l1Rising_any _ _ _ rxs (k - 1) _ HRW2.out HRL2.out (by omega)).mono ?_; rintro e w' ⟨rfl, rfl⟩; rw [HR.out]) | (go_at_call 171; refine (keBefore_any _ _ _ _ _ _ rxs' rxs _ HRW'.out HRW2.out HRL'.out HRL2.out rfl rfl).mono ?_; rintro e w' ⟨rfl, kk, rfl⟩; rw [HF.out]))
                  go_roundw
                  case rel => exact ⟨j + 1, by omega, by go_num, HST.out, H0.out.below (below_draws (Below.refl _ _) kk), below_draws HB.out kk⟩
                  case measure => simp [intOf]; omega
          · have hne : ((rn : Int) != 2) = true := by simp; omega
            have HN : Hid (q = false) := by
              show _ = _
              rw [HQ.out]
              refine keepOk_no HJ.out fun h => ?_
              have h1 := h.1.1
              rw [HAT2.out, HRL2.out] at h1
              exact h2 h1
            have h2' := Lib.hid h2
            clear HQ h2
            go_wp2
            go_ret
            exact ⟨ret_of (by rw [HN.out]; rfl), HB.out⟩
        · have HN : Hid (q = true) := by
            show _ = _
            rw [HQ.out]
            exact keepOk_yes HKS.out hdt (by rw [HLS.out]; omega)
          clear HQ
          go_wp2
          go_ret
          exact ⟨ret_of (by rw [HN.out]; rfl), hb⟩

end Go.Proofs.Ytkocompjjogciaa

namespace Go.Proofs.Ytkocompjjogciaa
open Go.RowKit

set_option maxHeartbeats 400000 in
theorem isNaNk_any (x : Int) (w : World) : Calls Try.prog 187 #[.int .i64 x] w fun e w' => e = .returned (.bool false) ∧ w = w' := by
  go_enter Try.func187, Try.ntmps187
  go_wp2
  go_ret
  exact ⟨by simp, rfl⟩
set_option maxHeartbeats 800000 in
theorem comparek_any (x y : Int) (w : World) : Calls Try.prog 172 #[.int .i64 x, .int .i64 y] w fun e w' => e = .returned (.int .i64 (Go.Lib.compareInt x y)) ∧ w = w' := by
  by_cases h : x < y
  · have HC : Hid (Go.Lib.compareInt x y = -1) := if_pos h
    go_enter Try.func172, Try.ntmps172
    go_wp2_with (go_at_call 187; refine (isNaNk_any _ _).mono ?_; rintro e w' ⟨rfl, rfl⟩)
    go_ret
    exact ⟨ret_of (by rw [HC.out]; rfl), rfl⟩
  · by_cases h2 : y < x
    · have HC : Hid (Go.Lib.compareInt x y = 1) := by show _ = _; rw [Go.Lib.compareInt, if_neg h, if_pos h2]
      go_enter Try.func172, Try.ntmps172
      go_wp2_with (go_at_call 187; refine (isNaNk_any _ _).mono ?_; rintro e w' ⟨rfl, rfl⟩)
      go_ret
      exact ⟨ret_of (by rw [HC.out]; rfl), rfl⟩
    · have HC : Hid (Go.Lib.compareInt x y = 0) := by show _ = _; rw [Go.Lib.compareInt, if_neg h, if_neg h2]
      go_enter Try.func172, Try.ntmps172
      go_wp2_with (go_at_call 187; refine (isNaNk_any _ _).mono ?_; rintro e w' ⟨rfl, rfl⟩)
      go_ret
      exact ⟨ret_of (by rw [HC.out]; rfl), rfl⟩

/-- Is a list a danger? -/
noncomputable def dgB (k : Int) (d : List Int) : Bool := by
  classical
  exact decide (IsDg k d)
theorem dgB_yes {k : Int} {d : List Int} (h : IsDg k d) : dgB k d = true := by classical simpa [dgB] using h
theorem dgB_no {k : Int} {d : List Int} (h : ¬ IsDg k d) : dgB k d = false := by classical simpa [dgB] using h

set_option maxHeartbeats 1600000 in
theorem isDanger_any (A : Option Addr) (n c : Nat) (d : List Int) (k : Int) (w : World) (hA : Holds w A (nums d)) (hx : d.length = n) (hn : n ≤ 9223372036854775807) :
    Calls Try.prog 138 #[.slice A n c, .int .i64 k] w fun e w' => e = .returned (.bool (dgB k d)) ∧ ∃ j, w' = w.drewN j := by
  by_cases h2 : n = 2
  · subst h2
    obtain ⟨b, o, rfl, hb, a0, a1⟩ := two_at hA hx
    have HY : Hid (IsDg k d ↔ (0 ≤ d.getD 0 0 ∧ d.getD 0 0 < d.getD 1 0 ∧ d.getD 1 0 < k)) := ⟨fun h => h.2, fun h => ⟨hx, h⟩⟩
    obtain ⟨q, hq⟩ : ∃ q : Bool, q = dgB k d := ⟨_, rfl⟩
    have HYES : Hid (IsDg k d → q = true) := fun h => by rw [hq]; exact dgB_yes h
    have HNO : Hid (¬ IsDg k d → q = false) := fun h => by rw [hq]; exact dgB_no h
    rw [← hq]
    clear hq hA hx
    generalize d.getD 0 0 = x0 at *
    generalize d.getD 1 0 = x1 at *
    have hl : (((2 : Nat) : Int) == 2) = true := rfl
    by_cases h0 : 0 ≤ x0
    · by_cases h1 : x0 < x1
      · by_cases h3 : x1 < k
        · have HQ : Hid (q = true) := HYES.out (HY.out.2 (by omega))
          have d0 : decide (0 ≤ x0) = true := by simp [h0]
          have d1 : decide (x0 < x1) = true := by simp [h1]
          have d3 : decide (x1 < k) = true := by simp [h3]
          clear HYES HNO HY
          go_enter Try.func138, Try.ntmps138
          go_wp2
          go_quiet (fail)
          go_wp2
          go_ret
          exact ⟨ret_of (by rw [HQ.out]; first | rfl | simp), _, rfl⟩
        · have HQ : Hid (q = false) := HNO.out (fun h => by have := HY.out.1 h; omega)
          have d0 : decide (0 ≤ x0) = true := by simp [h0]
          have d1 : decide (x0 < x1) = true := by simp [h1]
          have d3 : decide (x1 < k) = false := by simp; omega
          clear HYES HNO HY
          go_enter Try.func138, Try.ntmps138
          go_wp2
          go_quiet (fail)
          go_wp2
          go_ret
          exact ⟨ret_of (by rw [HQ.out]; first | rfl | simp), _, rfl⟩
      · have HQ : Hid (q = false) := HNO.out (fun h => by have := HY.out.1 h; omega)
        have d0 : decide (0 ≤ x0) = true := by simp [h0]
        have d1 : decide (x0 < x1) = false := by simp; omega
        clear HYES HNO HY
        go_enter Try.func138, Try.ntmps138
        go_wp2
        go_quiet (fail)
        go_wp2
        go_ret
        exact ⟨ret_of (by rw [HQ.out]; first | rfl | simp), _, rfl⟩
    · have HQ : Hid (q = false) := HNO.out (fun h => by have := HY.out.1 h; omega)
      have d0 : decide (0 ≤ x0) = false := by simp; omega
      clear HYES HNO HY
      go_enter Try.func138, Try.ntmps138
      go_wp2
      go_quiet (fail)
      go_wp2
      go_ret
      exact ⟨ret_of (by rw [HQ.out]; first | rfl | simp), _, rfl⟩
  · have HQ : Hid (dgB k d = false) := dgB_no fun h => h2 (by rw [← hx]; exact h.1)
    have hl : ((n : Int) == 2) = false := by simp; omega
    clear hA hx h2
    go_enter Try.func138, Try.ntmps138
    go_wp2
    go_quiet (fail)
    go_wp2
    go_ret
    exact ⟨ret_of (by rw [HQ.out]; first | rfl | simp), _, rfl⟩

instance befDec (a b : List Int) : Decidable (BefD a b) := by unfold BefD; infer_instance
/-- What slices.Compare tells of a list and a danger. -/
noncomputable def cmpD (a b : List Int) : Int := if a = [] then -1 else if BefD a b then -1 else if BefD b a then 1 else 0
theorem cmpD_neg {a b : List Int} (h : a = [] ∨ BefD a b) : cmpD a b = -1 := by
  unfold cmpD
  rcases h with h | h
  · rw [if_pos h]
  · by_cases ha : a = []
    · rw [if_pos ha]
    · rw [if_neg ha, if_pos h]
theorem cmpD_pos {a b : List Int} (h : a ≠ []) (h1 : ¬ BefD a b) : 0 ≤ cmpD a b := by
  unfold cmpD
  rw [if_neg h, if_neg h1]
  split <;> omega
theorem cmpD_0 {a b : List Int} (h : a ≠ []) (h1 : a.getD 0 0 ≠ b.getD 0 0) : cmpD a b = Go.Lib.compareInt (a.getD 0 0) (b.getD 0 0) := by
  unfold cmpD Go.Lib.compareInt BefD
  rw [if_neg h]
  repeat' split
  all_goals omega
theorem cmpD_1 {a b : List Int} (h : a ≠ []) (h1 : a.getD 0 0 = b.getD 0 0) : cmpD a b = Go.Lib.compareInt (a.getD 1 0) (b.getD 1 0) := by
  unfold cmpD Go.Lib.compareInt BefD
  rw [if_neg h]
  repeat' split
  all_goals omega

set_option maxHeartbeats 3200000 in
theorem compareD_any (A B : Option Addr) (n c m d : Nat) (x y : List Int) (w : World) (hA : Holds w A (nums x)) (hB : Holds w B (nums y)) (hx : x.length = n) (hn : x = [] ∨ x.length = 2) (hy : y.length = 2) (hm : m = 2) :
    Calls Try.prog 139 #[.slice A n c, .slice B m d] w fun e w' => e = .returned (.int .i64 (cmpD x y)) ∧ w = w' := by
  subst hm
  obtain ⟨b', o', rfl, hb', c0, c1⟩ := two_at hB hy
  rcases hn with rfl | hl
  · obtain rfl : n = 0 := by simpa using hx.symm
    have HQ : Hid (cmpD [] y = -1) := cmpD_neg (.inl rfl)
    clear hA hB hx hy
    go_enter Try.func139, Try.ntmps139
    go_wp2
    go_loop [11] (fun i => i = .int .i64 0) (fun _ => 0)
    case atStart => rfl
    case round =>
      subst hrel
      go_wp2
      go_ret
      exact ⟨ret_of (by rw [HQ.out]; rfl), rfl⟩
  · obtain rfl : n = 2 := by omega
    have hne : x ≠ [] := by intro h; rw [h] at hl; cases hl
    obtain ⟨b, o, rfl, hb, a0, a1⟩ := two_at hA hl
    have H0 : Hid (x.getD 0 0 ≠ y.getD 0 0 → cmpD x y = Go.Lib.compareInt (x.getD 0 0) (y.getD 0 0)) := cmpD_0 hne
    have H1 : Hid (x.getD 0 0 = y.getD 0 0 → cmpD x y = Go.Lib.compareInt (x.getD 1 0) (y.getD 1 0)) := cmpD_1 hne
    clear hA hB hx hy hl hne
    generalize cmpD x y = q at *
    generalize x.getD 0 0 = x0 at *
    generalize y.getD 0 0 = y0 at *
    generalize x.getD 1 0 = x1 at *
    generalize y.getD 1 0 = y1 at *
    go_enter Try.func139, Try.ntmps139
    go_wp2
    go_loop [11] (fun i => ∃ j : Nat, j ≤ 2 ∧ i = .int .i64 j ∧ (0 < j → x0 = y0) ∧ (1 < j → x1 = y1)) (fun i => 2 - (intOf i).toNat)
    case atStart => exact ⟨0, by omega, rfl, fun h => by omega, fun h => by omega⟩
    case round =>
      obtain ⟨j, hj, rfl, e0, e1⟩ := hrel
      have hjc : j = 0 ∨ j = 1 ∨ j = 2 := by omega
      rcases hjc with rfl | rfl | rfl
      · clear e0 e1
        by_cases he : x0 = y0
        · have HC : Hid (Go.Lib.compareInt x0 y0 = 0) := by show _ = _; unfold Go.Lib.compareInt; rw [if_neg (by omega), if_neg (by omega)]
          have HE := Lib.hid he
          clear he
          go_wp2_with (go_at_call 172; refine (comparek_any _ _ _).mono ?_; rintro e w' ⟨rfl, rfl⟩; rw [HC.out])
          go_round
          case rel => exact ⟨1, by omega, rfl, fun _ => HE.out, fun h => by omega⟩
          case measure => simp [intOf]
        · have HC : Hid ((Go.Lib.compareInt x0 y0 != 0) = true) := by show _ = _; unfold Go.Lib.compareInt; by_cases h1 : x0 < y0 <;> by_cases h2 : y0 < x0 <;> simp [h1, h2]; omega
          have HQ : Hid (q = Go.Lib.compareInt x0 y0) := H0.out he
          clear he
          have hc := HC.out
          go_wp2_with (go_at_call 172; refine (comparek_any _ _ _).mono ?_; rintro e w' ⟨rfl, rfl⟩)
          go_ret
          exact ⟨ret_of (by rw [HQ.out]; rfl), rfl⟩
      · have HE := Lib.hid (e0 (by omega))
        clear e0 e1
        by_cases he : x1 = y1
        · have HC : Hid (Go.Lib.compareInt x1 y1 = 0) := by show _ = _; unfold Go.Lib.compareInt; rw [if_neg (by omega), if_neg (by omega)]
          have HE1 := Lib.hid he
          clear he
          go_wp2_with (go_at_call 172; refine (comparek_any _ _ _).mono ?_; rintro e w' ⟨rfl, rfl⟩; rw [HC.out])
          go_round
          case rel => exact ⟨2, by omega, rfl, fun _ => HE.out, fun _ => HE1.out⟩
          case measure => simp [intOf]
        · have HC : Hid ((Go.Lib.compareInt x1 y1 != 0) = true) := by show _ = _; unfold Go.Lib.compareInt; by_cases h1 : x1 < y1 <;> by_cases h2 : y1 < x1 <;> simp [h1, h2]; omega
          have HQ : Hid (q = Go.Lib.compareInt x1 y1) := H1.out HE.out
          clear he
          have hc := HC.out
          go_wp2_with (go_at_call 172; refine (comparek_any _ _ _).mono ?_; rintro e w' ⟨rfl, rfl⟩)
          go_ret
          exact ⟨ret_of (by rw [HQ.out]; rfl), rfl⟩
      · have HQ : Hid (q = 0) := by
          show _ = _
          rw [H1.out (e0 (by omega)), e1 (by omega)]
          unfold Go.Lib.compareInt
          rw [if_neg (by omega), if_neg (by omega)]
        clear e0 e1
        go_wp2
        go_ret
        exact ⟨ret_of (by rw [HQ.out]; rfl), rfl⟩

set_option maxHeartbeats 3200000 in
set_option maxRecDepth 100000 in
theorem isKeep_any (k s : Int) (A : Option Addr) (n c : Nat) (rs : List RowV) (w : World) (hA : Grid w A rs) (hx : rs.length = n) (hn : n ≤ 1048576) :
    Calls Try.prog 72 #[.agg #[.int .i64 k, .slice A n c, .int .i64 s]] w fun e w' => e = .returned (.bool (keepOk k s (rowNums rs))) ∧ Below w.heap.size w w' := by
  subst hx
  have HLS := Lib.hid (rowNums_len rs)
  have h0 := Lib.hid (Whole.fresh w 39 #[.int .i64 k, .slice A rs.length c, .int .i64 s])
  have hb1 := Lib.hid (below1 w (.cells #[.int .i64 k, .slice A rs.length c, .int .i64 s] 39))
  have HG := Lib.hid hA
  obtain ⟨f0, f1, f2⟩ := h0.out.cells3
  obtain ⟨q, hq⟩ : ∃ q : Bool, q = keepOk k s (rowNums rs) := ⟨_, rfl⟩
  rw [← hq]
  have HQ := Lib.hid hq
  clear hq hA
  by_cases hok : 0 ≤ k ∧ k ≤ 8 ∧ 0 ≤ s ∧ s ≤ 8
  rotate_left
  · have HQ2 : Hid (q = false) := by
      show _ = _
      rw [HQ.out]
      exact keepOk_out hok
    clear HQ
    obtain ⟨g5, g6⟩ | ⟨g5, g6⟩ | ⟨g5, g6⟩ : (k ≤ s ∧ k < s) ∨ (k ≤ s ∧ ¬ k < s) ∨ (¬ k ≤ s ∧ ¬ k < s) := by omega
    all_goals (by_cases g1 : k < 0 <;> by_cases g2 : s < 0 <;> by_cases g3 : 8 < k <;> by_cases g4 : 8 < s)
    all_goals first
      | (exfalso; omega)
      | (clear hok; go_enter Try.func72, Try.ntmps72; go_wp2; go_ret; exact ⟨ret_of (by rw [HQ2.out]; rfl), hb1.out⟩)
  · have HKS := Lib.hid hok
    have g1 : ¬ k < 0 := by omega
    have g2 : ¬ s < 0 := by omega
    have g3 : ¬ 8 < k := by omega
    have g4 : ¬ 8 < s := by omega
    have HK8 : Hid (k ≤ 8) := hok.2.1
    clear hok
    obtain ⟨g5, g6⟩ | ⟨g5, g6⟩ | ⟨g5, g6⟩ : (k ≤ s ∧ k < s) ∨ (k ≤ s ∧ ¬ k < s) ∨ (¬ k ≤ s ∧ ¬ k < s) := by omega
    all_goals
      go_enter Try.func72, Try.ntmps72
      go_wp2
      clear g1 g2 g3 g4 g5 g6
      go_loopw [3, 23] (fun v i wr => ∃ j : Nat, j ≤ rs.length ∧ i = .int .i64 j ∧ (∃ (P : Option Addr) (pn pc : Nat) (pxs : List Int), v = .slice P pn pc ∧ Holds w P (nums pxs) ∧ pxs.length = pn ∧ ((j = 0 ∧ pxs = []) ∨ (0 < j ∧ pxs = (rowNums rs).getD (j - 1) []))) ∧ DgTo k (rowNums rs) j ∧ Whole wr w.heap.size 39 #[.int .i64 k, .slice A rs.length c, .int .i64 s] ∧ Below w.heap.size w wr) (fun _ i _ => rs.length - (intOf i).toNat)
      case atStart => exact ⟨0, Nat.zero_le _, rfl, ⟨none, 0, 0, [], rfl, .inl rfl, rfl, .inl ⟨rfl, rfl⟩⟩, DgTo.start _ _, h0.out, hb1.out⟩
      case round =>
        clear f0 f1 f2 h0 hb1
        obtain ⟨j, hj, rfl, ⟨P, pn, pc, pxs, rfl, hP, hpl, hpx⟩, hdt, h0, hb⟩ := hrel
        by_cases hlt : j < rs.length
        · obtain ⟨b, o, rfl, hbl, hcell, hrow, hrl, hrn⟩ := grid_row HG.out hlt
          replace hcell := (hb.cell (p := ⟨b, o + j, none⟩) hbl).trans hcell
          have HAT := Lib.hid (rows_at rs hlt)
          obtain ⟨f0, f1, f2⟩ := h0.cells3
          obtain ⟨R, hR⟩ : ∃ R, R = rs[j] := ⟨_, rfl⟩
          rw [← hR] at hcell hrow hrl hrn HAT
          have HD := Lib.hid hdt
          have H0 := Lib.hid h0
          have HB := Lib.hid hb
          have HJ : Hid (j < (rowNums rs).length) := by show _ < _; rw [HLS.out]; exact hlt
          obtain ⟨rA, rn, rc, rxs⟩ := R
          replace hcell : World.cell? wr ⟨b, o + j, none⟩ = some (.slice rA rn rc) := hcell
          replace hrn : rn ≤ 9223372036854775807 := hrn
          have HRL2 : Hid (rxs.length = rn) := hrl
          have HRW0 : Hid (Holds w rA (nums rxs)) := hrow
          have HRW2 : Hid (Holds wr rA (nums rxs)) := HRW0.out.below hb
          have HAT2 : Hid ((rowNums rs).getD j [] = rxs) := HAT.out
          have HP : Hid (Holds wr P (nums pxs)) := hP.below hb
          have HPL := Lib.hid hpl
          have HPX := Lib.hid hpx
          clear HAT hrow hrl hR hdt h0 hb hP hpl hpx
          cases hr : dgB k rxs
          · have HN : Hid (q = false) := by
              show _ = _
              rw [HQ.out]
              refine keepOk_no HJ.out fun h => ?_
              have h1 := h.1
              rw [HAT2.out] at h1
              rw [dgB_yes h1] at hr
              cases hr
            have HR := Lib.hid hr
            clear hr HQ
            go_wp2_with (go_at_call 138; refine (isDanger_any _ _ _ rxs k _ HRW2.out HRL2.out hrn).mono ?_; rintro e w' ⟨rfl, jj, rfl⟩; rw [HR.out])
            go_ret
            exact ⟨ret_of (by rw [HN.out]; rfl), below_draws HB.out jj⟩
          · have HDG : Hid (IsDg k rxs) := Classical.byContradiction fun h => by rw [dgB_no h] at hr; cases hr
            have HR := Lib.hid hr
            obtain rfl : rn = 2 := by have := HDG.out.1; have := HRL2.out; omega
            have HP2 : Hid (pxs = [] ∨ pxs.length = 2) := by
              rcases HPX.out with ⟨-, h⟩ | ⟨h1, h2⟩
              · exact .inl h
              · exact .inr (by rw [h2]; exact (HD.out (j - 1) (by omega)).1.1)
            clear hr
            by_cases hbf : pxs = [] ∨ BefD pxs rxs
            · have HST : Hid (DgTo k (rowNums rs) (j + 1)) := HD.out.next ⟨by rw [HAT2.out]; exact HDG.out, by
                rcases HPX.out with ⟨h, -⟩ | ⟨h1, h2⟩
                · exact .inl h
                · rw [HAT2.out, ← h2]
                  rcases hbf with h | h
                  · have h3 := (HD.out (j - 1) (by omega)).1.1
                    rw [← h2, h] at h3
                    cases h3
                  · exact .inr h⟩
              have HF := Lib.hid (cmpD_neg hbf)
              clear hbf
              go_wp2_with (first | (go_at_call 138; refine (isDanger_any _ _ _ rxs k _ HRW2.out HRL2.out hrn).mono ?_; rintro e w' ⟨rfl, jj, rfl⟩; rw [HR.out]) | (go_at_call 139; refine (compareD_any _ _ _ _ _ _ pxs rxs _ (by exact HP.out.below (below_draws (Below.refl _ _) jj)) (by exact HRW2.out.below (below_draws (Below.refl _ _) jj)) HPL.out HP2.out HRL2.out rfl).mono ?_; rintro e w' ⟨rfl, rfl⟩; rw [HF.out]))
              go_roundw
              case rel => exact ⟨j + 1, by omega, by go_num, ⟨rA, 2, rc, rxs, rfl, HRW0.out, HRL2.out, .inr ⟨by omega, by rw [show j + 1 - 1 = j by omega]; exact HAT2.out.symm⟩⟩, HST.out, H0.out.below (below_draws (Below.refl _ _) jj), below_draws HB.out jj⟩
              case measure => simp [intOf]; omega
            · have hbf1 : pxs ≠ [] := fun h => hbf (.inl h)
              have hbf2 : ¬ BefD pxs rxs := fun h => hbf (.inr h)
              have HN : Hid (q = false) := by
                show _ = _
                rw [HQ.out]
                refine keepOk_no HJ.out fun h => ?_
                rcases HPX.out with ⟨-, h1⟩ | ⟨h1, h2⟩
                · exact hbf1 h1
                · rcases h.2 with h3 | h3
                  · omega
                  · rw [HAT2.out, ← h2] at h3
                    exact hbf2 h3
              obtain ⟨r, hr⟩ : ∃ r, r = cmpD pxs rxs := ⟨_, rfl⟩
              have hr0 : 0 ≤ r := by rw [hr]; exact cmpD_pos hbf1 hbf2
              have HF : Hid (cmpD pxs rxs = r) := hr.symm
              have hdr : decide (0 ≤ r) = true := by simp only [decide_eq_true_eq]; exact hr0
              clear hbf hbf1 hbf2 hr HQ
              go_wp2_with (first | (go_at_call 138; refine (isDanger_any _ _ _ rxs k _ HRW2.out HRL2.out hrn).mono ?_; rintro e w' ⟨rfl, jj, rfl⟩; rw [HR.out]) | (go_at_call 139; refine (compareD_any _ _ _ _ _ _ pxs rxs _ (by exact HP.out.below (below_draws (Below.refl _ _) jj)) (by exact HRW2.out.below (below_draws (Below.refl _ _) jj)) HPL.out HP2.out HRL2.out rfl).mono ?_; rintro e w' ⟨rfl, rfl⟩; rw [HF.out]))
              go_ret
              exact ⟨ret_of (by rw [HN.out]; rfl), below_draws HB.out jj⟩
        · have HN : Hid (q = true) := by
            show _ = _
            rw [HQ.out]
            exact keepOk_yes HKS.out hdt (by rw [HLS.out]; omega)
          clear HQ
          go_wp2
          go_ret
          exact ⟨ret_of (by rw [HN.out]; rfl), hb⟩

theorem implIsKeep_on (k s : Int) (A : Option Addr) (n c : Nat) (rs : List RowV) (ls : List (List Int)) (w : World) (hA : Grid w A rs) (he : rowNums rs = ls) (hx : rs.length = n) (hn : n ≤ 1048576) :
    Calls Try.prog 72 #[.agg #[.int .i64 k, .slice A n c, .int .i64 s]] w fun e w' => e = .returned (.bool (keepOk k s ls)) ∧ Below w.heap.size w w' :=
  he ▸ isKeep_any k s A n c rs w hA hx hn
end Go.Proofs.Ytkocompjjogciaa

namespace Go.Proofs.Ytkocompjjogciaa
open Go.RowKit

noncomputable def deskOk (xs : List Int) (s : Int) (n : Nat) (bs : List Bool) (t : Bool) (k : Int) (ls : List (List Int)) (q : Int) (ys : List Int) (dn : Nat) (p : Int) : Bool := (isParty xs s && isState n bs t) && (keepOk k q ls && isCrew ys dn p)

set_option maxHeartbeats 3200000 in
set_option maxRecDepth 100000 in
set_option linter.unusedVariables false in
set_option linter.unusedSimpArgs false in
theorem coGood_any (A : Option Addr) (n c : Nat) (xs : List Int) (s : Int) (B : Option Addr) (m d : Nat) (bs : List Bool) (t : Bool) (k : Int) (G : Option Addr) (gn gc : Nat) (rs : List RowV) (q : Int) (C : Option Addr) (cn cc : Nat) (ys : List Int) (D : Option Addr) (dn dc : Nat) (p : Int) (w : World) (hA : Holds w A (nums xs)) (hB : Holds w B (bits bs)) (hG : Grid w G rs) (hC : Holds w C (nums ys)) (hx : xs.length = n) (hy : bs.length = m) (hz : rs.length = gn) (hv : ys.length = cn) (hn : n ≤ 1048576) (hm : m ≤ 1048576) (hgn : gn ≤ 1048576) (hcn : cn ≤ 1048576) :
    Calls Try.prog 68 #[.agg #[.slice A n c, .int .i64 s, .slice B m d, .bool t, .int .i64 k, .slice G gn gc, .int .i64 q, .slice C cn cc, .slice D dn dc, .int .i64 p]] w fun e w' => e = .returned (.bool (deskOk xs s n bs t k (rowNums rs) q ys dn p)) ∧ Below w.heap.size w w' := by
  have HA := Lib.hid hA
  have HB := Lib.hid hB
  have HG := Lib.hid hG
  have HC := Lib.hid hC
  have HX := Lib.hid hx
  have HY := Lib.hid hy
  have HZ := Lib.hid hz
  have HV := Lib.hid hv
  have hq := Whole.fresh w 42 #[.slice A n c, .int .i64 s, .slice B m d, .bool t, .int .i64 k, .slice G gn gc, .int .i64 q, .slice C cn cc, .slice D dn dc, .int .i64 p]
  have ht := below1 w (.cells #[.slice A n c, .int .i64 s, .slice B m d, .bool t, .int .i64 k, .slice G gn gc, .int .i64 q, .slice C cn cc, .slice D dn dc, .int .i64 p] 42)
  clear hA hB hG hC hx hy hz hv
  cases h1 : isParty xs s && isState n bs t
  · have HR : Hid (deskOk xs s n bs t k (rowNums rs) q ys dn p = false) := by show _ = _; simp [deskOk, h1]
    have H1 := Lib.hid h1
    clear h1
    have k0 := hq.cell 0
    have k1 := hq.cell 1
    have k2 := hq.cell 2
    have k3 := hq.cell 3
    have k4 := hq.cell 4
    have k5 := hq.cell 5
    have k6 := hq.cell 6
    have k7 := hq.cell 7
    have k8 := hq.cell 8
    have k9 := hq.cell 9
    have hql := hq.lt
    go_enter Try.func68, Try.ntmps68
    go_wp2_with fail
    refine (paAsked_any A B n c m d xs bs s t _ (HA.out.below ht) (HB.out.below ht) HX.out HY.out (by omega) (by omega)).mono ?_
    rintro e w1 ⟨rfl, hb⟩
    rw [H1.out]
    replace ht := below_then ht hb ht.size
    replace hq := hq.below hb
    clear hb k0 k1 k2 k3 k4 k5 k6 k7 k8 k9 hql
    have k0 := hq.cell 0
    have k1 := hq.cell 1
    have k2 := hq.cell 2
    have k3 := hq.cell 3
    have k4 := hq.cell 4
    have k5 := hq.cell 5
    have k6 := hq.cell 6
    have k7 := hq.cell 7
    have k8 := hq.cell 8
    have k9 := hq.cell 9
    have hql := hq.lt
    go_wp2
    go_ret
    exact ⟨by rw [HR.out]; rfl, ht⟩
  cases h2 : keepOk k q (rowNums rs)
  · have HR : Hid (deskOk xs s n bs t k (rowNums rs) q ys dn p = false) := by show _ = _; simp [deskOk, h1, h2]
    have H1 := Lib.hid h1
    have H2 := Lib.hid h2
    clear h1 h2
    have k0 := hq.cell 0
    have k1 := hq.cell 1
    have k2 := hq.cell 2
    have k3 := hq.cell 3
    have k4 := hq.cell 4
    have k5 := hq.cell 5
    have k6 := hq.cell 6
    have k7 := hq.cell 7
    have k8 := hq.cell 8
    have k9 := hq.cell 9
    have hql := hq.lt
    go_enter Try.func68, Try.ntmps68
    go_wp2_with fail
    refine (paAsked_any A B n c m d xs bs s t _ (HA.out.below ht) (HB.out.below ht) HX.out HY.out (by omega) (by omega)).mono ?_
    rintro e w1 ⟨rfl, hb⟩
    rw [H1.out]
    replace ht := below_then ht hb ht.size
    replace hq := hq.below hb
    clear hb k0 k1 k2 k3 k4 k5 k6 k7 k8 k9 hql
    have k0 := hq.cell 0
    have k1 := hq.cell 1
    have k2 := hq.cell 2
    have k3 := hq.cell 3
    have k4 := hq.cell 4
    have k5 := hq.cell 5
    have k6 := hq.cell 6
    have k7 := hq.cell 7
    have k8 := hq.cell 8
    have k9 := hq.cell 9
    have hql := hq.lt
    go_wp2_with fail
    refine (keGood_any k q G gn gc rs _ (HG.out.below ht) HZ.out hgn).mono ?_
    rintro e w2 ⟨rfl, hb⟩
    rw [H2.out]
    replace ht := below_then ht hb ht.size
    replace hq := hq.below hb
    clear hb k0 k1 k2 k3 k4 k5 k6 k7 k8 k9 hql
    have k0 := hq.cell 0
    have k1 := hq.cell 1
    have k2 := hq.cell 2
    have k3 := hq.cell 3
    have k4 := hq.cell 4
    have k5 := hq.cell 5
    have k6 := hq.cell 6
    have k7 := hq.cell 7
    have k8 := hq.cell 8
    have k9 := hq.cell 9
    have hql := hq.lt
    go_wp2
    go_ret
    exact ⟨by rw [HR.out]; rfl, ht⟩
  cases h3 : isCrew ys dn p
  · have HR : Hid (deskOk xs s n bs t k (rowNums rs) q ys dn p = false) := by show _ = _; simp [deskOk, h1, h2, h3]
    have H1 := Lib.hid h1
    have H2 := Lib.hid h2
    have H3 := Lib.hid h3
    clear h1 h2 h3
    have k0 := hq.cell 0
    have k1 := hq.cell 1
    have k2 := hq.cell 2
    have k3 := hq.cell 3
    have k4 := hq.cell 4
    have k5 := hq.cell 5
    have k6 := hq.cell 6
    have k7 := hq.cell 7
    have k8 := hq.cell 8
    have k9 := hq.cell 9
    have hql := hq.lt
    go_enter Try.func68, Try.ntmps68
    go_wp2_with fail
    refine (paAsked_any A B n c m d xs bs s t _ (HA.out.below ht) (HB.out.below ht) HX.out HY.out (by omega) (by omega)).mono ?_
    rintro e w1 ⟨rfl, hb⟩
    rw [H1.out]
    replace ht := below_then ht hb ht.size
    replace hq := hq.below hb
    clear hb k0 k1 k2 k3 k4 k5 k6 k7 k8 k9 hql
    have k0 := hq.cell 0
    have k1 := hq.cell 1
    have k2 := hq.cell 2
    have k3 := hq.cell 3
    have k4 := hq.cell 4
    have k5 := hq.cell 5
    have k6 := hq.cell 6
    have k7 := hq.cell 7
    have k8 := hq.cell 8
    have k9 := hq.cell 9
    have hql := hq.lt
    go_wp2_with fail
    refine (keGood_any k q G gn gc rs _ (HG.out.below ht) HZ.out hgn).mono ?_
    rintro e w2 ⟨rfl, hb⟩
    rw [H2.out]
    replace ht := below_then ht hb ht.size
    replace hq := hq.below hb
    clear hb k0 k1 k2 k3 k4 k5 k6 k7 k8 k9 hql
    have k0 := hq.cell 0
    have k1 := hq.cell 1
    have k2 := hq.cell 2
    have k3 := hq.cell 3
    have k4 := hq.cell 4
    have k5 := hq.cell 5
    have k6 := hq.cell 6
    have k7 := hq.cell 7
    have k8 := hq.cell 8
    have k9 := hq.cell 9
    have hql := hq.lt
    go_wp2_with fail
    refine (loGood_any C cn cc D dn dc ys p _ (HC.out.below ht) HV.out (by omega)).mono ?_
    rintro e w3 ⟨rfl, hb⟩
    rw [H3.out]
    replace ht := below_then ht hb ht.size
    replace hq := hq.below hb
    clear hb k0 k1 k2 k3 k4 k5 k6 k7 k8 k9 hql
    have k0 := hq.cell 0
    have k1 := hq.cell 1
    have k2 := hq.cell 2
    have k3 := hq.cell 3
    have k4 := hq.cell 4
    have k5 := hq.cell 5
    have k6 := hq.cell 6
    have k7 := hq.cell 7
    have k8 := hq.cell 8
    have k9 := hq.cell 9
    have hql := hq.lt
    go_wp2
    go_ret
    exact ⟨by rw [HR.out]; rfl, ht⟩
  · have HR : Hid (deskOk xs s n bs t k (rowNums rs) q ys dn p = true) := by show _ = _; simp [deskOk, h1, h2, h3]
    have H1 := Lib.hid h1
    have H2 := Lib.hid h2
    have H3 := Lib.hid h3
    clear h1 h2 h3
    have k0 := hq.cell 0
    have k1 := hq.cell 1
    have k2 := hq.cell 2
    have k3 := hq.cell 3
    have k4 := hq.cell 4
    have k5 := hq.cell 5
    have k6 := hq.cell 6
    have k7 := hq.cell 7
    have k8 := hq.cell 8
    have k9 := hq.cell 9
    have hql := hq.lt
    go_enter Try.func68, Try.ntmps68
    go_wp2_with fail
    refine (paAsked_any A B n c m d xs bs s t _ (HA.out.below ht) (HB.out.below ht) HX.out HY.out (by omega) (by omega)).mono ?_
    rintro e w1 ⟨rfl, hb⟩
    rw [H1.out]
    replace ht := below_then ht hb ht.size
    replace hq := hq.below hb
    clear hb k0 k1 k2 k3 k4 k5 k6 k7 k8 k9 hql
    have k0 := hq.cell 0
    have k1 := hq.cell 1
    have k2 := hq.cell 2
    have k3 := hq.cell 3
    have k4 := hq.cell 4
    have k5 := hq.cell 5
    have k6 := hq.cell 6
    have k7 := hq.cell 7
    have k8 := hq.cell 8
    have k9 := hq.cell 9
    have hql := hq.lt
    go_wp2_with fail
    refine (keGood_any k q G gn gc rs _ (HG.out.below ht) HZ.out hgn).mono ?_
    rintro e w2 ⟨rfl, hb⟩
    rw [H2.out]
    replace ht := below_then ht hb ht.size
    replace hq := hq.below hb
    clear hb k0 k1 k2 k3 k4 k5 k6 k7 k8 k9 hql
    have k0 := hq.cell 0
    have k1 := hq.cell 1
    have k2 := hq.cell 2
    have k3 := hq.cell 3
    have k4 := hq.cell 4
    have k5 := hq.cell 5
    have k6 := hq.cell 6
    have k7 := hq.cell 7
    have k8 := hq.cell 8
    have k9 := hq.cell 9
    have hql := hq.lt
    go_wp2_with fail
    refine (loGood_any C cn cc D dn dc ys p _ (HC.out.below ht) HV.out (by omega)).mono ?_
    rintro e w3 ⟨rfl, hb⟩
    rw [H3.out]
    replace ht := below_then ht hb ht.size
    replace hq := hq.below hb
    clear hb k0 k1 k2 k3 k4 k5 k6 k7 k8 k9 hql
    have k0 := hq.cell 0
    have k1 := hq.cell 1
    have k2 := hq.cell 2
    have k3 := hq.cell 3
    have k4 := hq.cell 4
    have k5 := hq.cell 5
    have k6 := hq.cell 6
    have k7 := hq.cell 7
    have k8 := hq.cell 8
    have k9 := hq.cell 9
    have hql := hq.lt
    go_wp2
    go_ret
    exact ⟨by rw [HR.out]; rfl, ht⟩

set_option maxHeartbeats 3200000 in
set_option maxRecDepth 100000 in
set_option linter.unusedVariables false in
set_option linter.unusedSimpArgs false in
theorem implDesk_any (A : Option Addr) (n c : Nat) (xs : List Int) (s : Int) (B : Option Addr) (m d : Nat) (bs : List Bool) (t : Bool) (k : Int) (G : Option Addr) (gn gc : Nat) (rs : List RowV) (q : Int) (C : Option Addr) (cn cc : Nat) (ys : List Int) (D : Option Addr) (dn dc : Nat) (p : Int) (w : World) (hA : Holds w A (nums xs)) (hB : Holds w B (bits bs)) (hG : Grid w G rs) (hC : Holds w C (nums ys)) (hx : xs.length = n) (hy : bs.length = m) (hz : rs.length = gn) (hv : ys.length = cn) (hn : n ≤ 1048576) (hm : m ≤ 1048576) (hgn : gn ≤ 1048576) (hcn : cn ≤ 1048576) :
    Calls Try.prog 18 #[.agg #[.slice A n c, .int .i64 s, .slice B m d, .bool t, .int .i64 k, .slice G gn gc, .int .i64 q, .slice C cn cc, .slice D dn dc, .int .i64 p]] w fun e w' => e = .returned (.bool (deskOk xs s n bs t k (rowNums rs) q ys dn p)) ∧ Below w.heap.size w w' := by
  have HA := Lib.hid hA
  have HB := Lib.hid hB
  have HG := Lib.hid hG
  have HC := Lib.hid hC
  have HX := Lib.hid hx
  have HY := Lib.hid hy
  have HZ := Lib.hid hz
  have HV := Lib.hid hv
  have hq := Whole.fresh w 42 #[.slice A n c, .int .i64 s, .slice B m d, .bool t, .int .i64 k, .slice G gn gc, .int .i64 q, .slice C cn cc, .slice D dn dc, .int .i64 p]
  have ht := below1 w (.cells #[.slice A n c, .int .i64 s, .slice B m d, .bool t, .int .i64 k, .slice G gn gc, .int .i64 q, .slice C cn cc, .slice D dn dc, .int .i64 p] 42)
  clear hA hB hG hC hx hy hz hv
  cases h1 : isParty xs s && isState n bs t
  · have HR : Hid (deskOk xs s n bs t k (rowNums rs) q ys dn p = false) := by show _ = _; simp [deskOk, h1]
    have H1 := Lib.hid h1
    clear h1
    have k0 := hq.cell 0
    have k1 := hq.cell 1
    have k2 := hq.cell 2
    have k3 := hq.cell 3
    have k4 := hq.cell 4
    have k5 := hq.cell 5
    have k6 := hq.cell 6
    have k7 := hq.cell 7
    have k8 := hq.cell 8
    have k9 := hq.cell 9
    have hql := hq.lt
    go_enter Try.func18, Try.ntmps18
    go_wp2_with fail
    refine (implIsState_any A B n c m d xs bs s t _ (HA.out.below ht) (HB.out.below ht) HX.out HY.out (by omega) (by omega)).mono ?_
    rintro e w1 ⟨rfl, hb⟩
    rw [H1.out]
    replace ht := below_then ht hb ht.size
    replace hq := hq.below hb
    clear hb k0 k1 k2 k3 k4 k5 k6 k7 k8 k9 hql
    have k0 := hq.cell 0
    have k1 := hq.cell 1
    have k2 := hq.cell 2
    have k3 := hq.cell 3
    have k4 := hq.cell 4
    have k5 := hq.cell 5
    have k6 := hq.cell 6
    have k7 := hq.cell 7
    have k8 := hq.cell 8
    have k9 := hq.cell 9
    have hql := hq.lt
    go_wp2
    go_ret
    exact ⟨by rw [HR.out]; rfl, ht⟩
  cases h2 : keepOk k q (rowNums rs)
  · have HR : Hid (deskOk xs s n bs t k (rowNums rs) q ys dn p = false) := by show _ = _; simp [deskOk, h1, h2]
    have H1 := Lib.hid h1
    have H2 := Lib.hid h2
    clear h1 h2
    have k0 := hq.cell 0
    have k1 := hq.cell 1
    have k2 := hq.cell 2
    have k3 := hq.cell 3
    have k4 := hq.cell 4
    have k5 := hq.cell 5
    have k6 := hq.cell 6
    have k7 := hq.cell 7
    have k8 := hq.cell 8
    have k9 := hq.cell 9
    have hql := hq.lt
    go_enter Try.func18, Try.ntmps18
    go_wp2_with fail
    refine (implIsState_any A B n c m d xs bs s t _ (HA.out.below ht) (HB.out.below ht) HX.out HY.out (by omega) (by omega)).mono ?_
    rintro e w1 ⟨rfl, hb⟩
    rw [H1.out]
    replace ht := below_then ht hb ht.size
    replace hq := hq.below hb
    clear hb k0 k1 k2 k3 k4 k5 k6 k7 k8 k9 hql
    have k0 := hq.cell 0
    have k1 := hq.cell 1
    have k2 := hq.cell 2
    have k3 := hq.cell 3
    have k4 := hq.cell 4
    have k5 := hq.cell 5
    have k6 := hq.cell 6
    have k7 := hq.cell 7
    have k8 := hq.cell 8
    have k9 := hq.cell 9
    have hql := hq.lt
    go_wp2_with fail
    refine (isKeep_any k q G gn gc rs _ (HG.out.below ht) HZ.out hgn).mono ?_
    rintro e w2 ⟨rfl, hb⟩
    rw [H2.out]
    replace ht := below_then ht hb ht.size
    replace hq := hq.below hb
    clear hb k0 k1 k2 k3 k4 k5 k6 k7 k8 k9 hql
    have k0 := hq.cell 0
    have k1 := hq.cell 1
    have k2 := hq.cell 2
    have k3 := hq.cell 3
    have k4 := hq.cell 4
    have k5 := hq.cell 5
    have k6 := hq.cell 6
    have k7 := hq.cell 7
    have k8 := hq.cell 8
    have k9 := hq.cell 9
    have hql := hq.lt
    go_wp2
    go_ret
    exact ⟨by rw [HR.out]; rfl, ht⟩
  cases h3 : isCrew ys dn p
  · have HR : Hid (deskOk xs s n bs t k (rowNums rs) q ys dn p = false) := by show _ = _; simp [deskOk, h1, h2, h3]
    have H1 := Lib.hid h1
    have H2 := Lib.hid h2
    have H3 := Lib.hid h3
    clear h1 h2 h3
    have k0 := hq.cell 0
    have k1 := hq.cell 1
    have k2 := hq.cell 2
    have k3 := hq.cell 3
    have k4 := hq.cell 4
    have k5 := hq.cell 5
    have k6 := hq.cell 6
    have k7 := hq.cell 7
    have k8 := hq.cell 8
    have k9 := hq.cell 9
    have hql := hq.lt
    go_enter Try.func18, Try.ntmps18
    go_wp2_with fail
    refine (implIsState_any A B n c m d xs bs s t _ (HA.out.below ht) (HB.out.below ht) HX.out HY.out (by omega) (by omega)).mono ?_
    rintro e w1 ⟨rfl, hb⟩
    rw [H1.out]
    replace ht := below_then ht hb ht.size
    replace hq := hq.below hb
    clear hb k0 k1 k2 k3 k4 k5 k6 k7 k8 k9 hql
    have k0 := hq.cell 0
    have k1 := hq.cell 1
    have k2 := hq.cell 2
    have k3 := hq.cell 3
    have k4 := hq.cell 4
    have k5 := hq.cell 5
    have k6 := hq.cell 6
    have k7 := hq.cell 7
    have k8 := hq.cell 8
    have k9 := hq.cell 9
    have hql := hq.lt
    go_wp2_with fail
    refine (isKeep_any k q G gn gc rs _ (HG.out.below ht) HZ.out hgn).mono ?_
    rintro e w2 ⟨rfl, hb⟩
    rw [H2.out]
    replace ht := below_then ht hb ht.size
    replace hq := hq.below hb
    clear hb k0 k1 k2 k3 k4 k5 k6 k7 k8 k9 hql
    have k0 := hq.cell 0
    have k1 := hq.cell 1
    have k2 := hq.cell 2
    have k3 := hq.cell 3
    have k4 := hq.cell 4
    have k5 := hq.cell 5
    have k6 := hq.cell 6
    have k7 := hq.cell 7
    have k8 := hq.cell 8
    have k9 := hq.cell 9
    have hql := hq.lt
    go_wp2_with fail
    refine (isCrew_any C cn cc D dn dc ys p _ (HC.out.below ht) HV.out (by omega)).mono ?_
    rintro e w3 ⟨rfl, hb⟩
    rw [H3.out]
    replace ht := below_then ht hb ht.size
    replace hq := hq.below hb
    clear hb k0 k1 k2 k3 k4 k5 k6 k7 k8 k9 hql
    have k0 := hq.cell 0
    have k1 := hq.cell 1
    have k2 := hq.cell 2
    have k3 := hq.cell 3
    have k4 := hq.cell 4
    have k5 := hq.cell 5
    have k6 := hq.cell 6
    have k7 := hq.cell 7
    have k8 := hq.cell 8
    have k9 := hq.cell 9
    have hql := hq.lt
    go_wp2
    go_ret
    exact ⟨by rw [HR.out]; rfl, ht⟩
  · have HR : Hid (deskOk xs s n bs t k (rowNums rs) q ys dn p = true) := by show _ = _; simp [deskOk, h1, h2, h3]
    have H1 := Lib.hid h1
    have H2 := Lib.hid h2
    have H3 := Lib.hid h3
    clear h1 h2 h3
    have k0 := hq.cell 0
    have k1 := hq.cell 1
    have k2 := hq.cell 2
    have k3 := hq.cell 3
    have k4 := hq.cell 4
    have k5 := hq.cell 5
    have k6 := hq.cell 6
    have k7 := hq.cell 7
    have k8 := hq.cell 8
    have k9 := hq.cell 9
    have hql := hq.lt
    go_enter Try.func18, Try.ntmps18
    go_wp2_with fail
    refine (implIsState_any A B n c m d xs bs s t _ (HA.out.below ht) (HB.out.below ht) HX.out HY.out (by omega) (by omega)).mono ?_
    rintro e w1 ⟨rfl, hb⟩
    rw [H1.out]
    replace ht := below_then ht hb ht.size
    replace hq := hq.below hb
    clear hb k0 k1 k2 k3 k4 k5 k6 k7 k8 k9 hql
    have k0 := hq.cell 0
    have k1 := hq.cell 1
    have k2 := hq.cell 2
    have k3 := hq.cell 3
    have k4 := hq.cell 4
    have k5 := hq.cell 5
    have k6 := hq.cell 6
    have k7 := hq.cell 7
    have k8 := hq.cell 8
    have k9 := hq.cell 9
    have hql := hq.lt
    go_wp2_with fail
    refine (isKeep_any k q G gn gc rs _ (HG.out.below ht) HZ.out hgn).mono ?_
    rintro e w2 ⟨rfl, hb⟩
    rw [H2.out]
    replace ht := below_then ht hb ht.size
    replace hq := hq.below hb
    clear hb k0 k1 k2 k3 k4 k5 k6 k7 k8 k9 hql
    have k0 := hq.cell 0
    have k1 := hq.cell 1
    have k2 := hq.cell 2
    have k3 := hq.cell 3
    have k4 := hq.cell 4
    have k5 := hq.cell 5
    have k6 := hq.cell 6
    have k7 := hq.cell 7
    have k8 := hq.cell 8
    have k9 := hq.cell 9
    have hql := hq.lt
    go_wp2_with fail
    refine (isCrew_any C cn cc D dn dc ys p _ (HC.out.below ht) HV.out (by omega)).mono ?_
    rintro e w3 ⟨rfl, hb⟩
    rw [H3.out]
    replace ht := below_then ht hb ht.size
    replace hq := hq.below hb
    clear hb k0 k1 k2 k3 k4 k5 k6 k7 k8 k9 hql
    have k0 := hq.cell 0
    have k1 := hq.cell 1
    have k2 := hq.cell 2
    have k3 := hq.cell 3
    have k4 := hq.cell 4
    have k5 := hq.cell 5
    have k6 := hq.cell 6
    have k7 := hq.cell 7
    have k8 := hq.cell 8
    have k9 := hq.cell 9
    have hql := hq.lt
    go_wp2
    go_ret
    exact ⟨by rw [HR.out]; rfl, ht⟩

set_option maxHeartbeats 1600000 in
theorem specDesk_any (A : Option Addr) (n c : Nat) (xs : List Int) (s : Int) (B : Option Addr) (m d : Nat) (bs : List Bool) (t : Bool) (k : Int) (G : Option Addr) (gn gc : Nat) (rs : List RowV) (q : Int) (C : Option Addr) (cn cc : Nat) (ys : List Int) (D : Option Addr) (dn dc : Nat) (p : Int) (w : World) (hA : Holds w A (nums xs)) (hB : Holds w B (bits bs)) (hG : Grid w G rs) (hC : Holds w C (nums ys)) (hx : xs.length = n) (hy : bs.length = m) (hz : rs.length = gn) (hv : ys.length = cn) (hn : n ≤ 1048576) (hm : m ≤ 1048576) (hgn : gn ≤ 1048576) (hcn : cn ≤ 1048576) :
    Calls Try.prog 16 #[.agg #[.slice A n c, .int .i64 s, .slice B m d, .bool t, .int .i64 k, .slice G gn gc, .int .i64 q, .slice C cn cc, .slice D dn dc, .int .i64 p]] w fun e w' => e = .returned (.bool (deskOk xs s n bs t k (rowNums rs) q ys dn p)) ∧ Below w.heap.size w w' := by
  have ht := below1 w (.cells #[.slice A n c, .int .i64 s, .slice B m d, .bool t, .int .i64 k, .slice G gn gc, .int .i64 q, .slice C cn cc, .slice D dn dc, .int .i64 p] 42)
  have HT := Lib.hid ht
  have HC9 := Lib.hid (coGood_any A n c xs s B m d bs t k G gn gc rs q C cn cc ys D dn dc p _ (hA.below ht) (hB.below ht) (hG.below ht) (hC.below ht) hx hy hz hv hn hm hgn hcn)
  clear hA hB hG hC hx hy hz hv ht
  have hq := Whole.fresh w 42 #[.slice A n c, .int .i64 s, .slice B m d, .bool t, .int .i64 k, .slice G gn gc, .int .i64 q, .slice C cn cc, .slice D dn dc, .int .i64 p]
  have k0 := hq.cell 0
  have k1 := hq.cell 1
  have k2 := hq.cell 2
  have k3 := hq.cell 3
  have k4 := hq.cell 4
  have k5 := hq.cell 5
  have k6 := hq.cell 6
  have k7 := hq.cell 7
  have k8 := hq.cell 8
  have k9 := hq.cell 9
  have hql := hq.lt
  go_enter Try.func16, Try.ntmps16
  go_wp2_with fail
  refine HC9.out.mono ?_
  rintro e w1 ⟨rfl, hb⟩
  have ht := below_then HT.out hb HT.out.size
  clear hb
  go_wp2
  go_ret
  exact ⟨rfl, ht⟩
end Go.Proofs.Ytkocompjjogciaa

namespace Go.Proofs.Ytkocompjjogciaa
open Go.RowKit

/-- The same place with other numbers. -/
def RowV.put (r : RowV) (ys : List Int) : RowV := ⟨r.A, r.n, r.c, ys⟩
/-- Rows of the call's own, each in a range of blocks that no other one meets. -/
def FreeRows (w : World) (ps : List (Nat × Nat)) (rs : List RowV) : Prop :=
  ps.length = rs.length ∧ (∀ (k : Nat) r p, rs[k]? = some r → ps[k]? = some p → Fresh w p.1 p.2 3 r.A (nums r.xs) ∧ r.xs.length = r.n ∧ r.n ≤ 1048576) ∧
    ∀ (i j : Nat) p p', i ≠ j → ps[i]? = some p → ps[j]? = some p' → p.2 ≤ p'.1 ∨ p'.2 ≤ p.1
/-- A list of lists of the call's own, all of it in blocks from lo on and before hi. -/
def FreeGrid (w : World) (lo hi : Nat) (A : Option Addr) (rs : List RowV) : Prop :=
  ∃ ps, FreeRows w ps rs ∧ (∀ p ∈ ps, lo ≤ p.1 ∧ p.2 ≤ hi) ∧ (rs = [] ∨ ∃ b o, A = some ⟨b, o, none⟩ ∧ b < w.heap.size ∧ lo ≤ b ∧ b < hi ∧ (∀ p ∈ ps, b < p.1 ∨ p.2 ≤ b) ∧ ∀ j u, (rowVals rs)[j]? = some u → w.cell? ⟨b, o + j, none⟩ = some u)
section
variable {w w' : World} {lo hi lo' hi' : Nat} {A : Option Addr} {rs : List RowV} {ps : List (Nat × Nat)}
theorem FreeRows.below (h : FreeRows w ps rs) (hb : Below w.heap.size w w') : FreeRows w' ps rs :=
  ⟨h.1, fun k r p hr hp => ⟨(h.2.1 k r p hr hp).1.below hb, (h.2.1 k r p hr hp).2⟩, h.2.2⟩
theorem FreeGrid.below (h : FreeGrid w lo hi A rs) (hb : Below w.heap.size w w') : FreeGrid w' lo hi A rs := by
  obtain ⟨ps, h1, h2, h3⟩ := h
  refine ⟨ps, h1.below hb, h2, ?_⟩
  rcases h3 with h3 | ⟨b, o, hA, hl, g1, g2, hd, hc⟩
  · exact .inl h3
  · exact .inr ⟨b, o, hA, Nat.lt_of_lt_of_le hl hb.size, g1, g2, hd, fun j u hu => (hb.cell (p := ⟨b, o + j, none⟩) hl).trans (hc j u hu)⟩
theorem FreeGrid.alloc (h : FreeGrid w lo hi A rs) (o : Obj) : FreeGrid (w.alloc o) lo hi A rs := h.below (below1 w o)
theorem FreeGrid.drew (h : FreeGrid w lo hi A rs) : FreeGrid w.drew lo hi A rs := h.below ⟨rfl, rfl, rfl, Nat.le_refl _, fun _ _ => rfl⟩
theorem FreeGrid.more (h : FreeGrid w lo hi A rs) (h1 : lo' ≤ lo) (h2 : hi ≤ hi') : FreeGrid w lo' hi' A rs := by
  obtain ⟨ps, g1, g2, g3⟩ := h
  refine ⟨ps, g1, fun p hp => ⟨Nat.le_trans h1 (g2 p hp).1, Nat.le_trans (g2 p hp).2 h2⟩, ?_⟩
  rcases g3 with g3 | ⟨b, o, hA, hl, k1, k2, hd, hc⟩
  · exact .inl g3
  · exact .inr ⟨b, o, hA, hl, Nat.le_trans h1 k1, Nat.lt_of_lt_of_le k2 h2, hd, hc⟩
theorem FreeGrid.grid (h : FreeGrid w lo hi A rs) : Grid w A rs := by
  obtain ⟨ps, g1, g2, g3⟩ := h
  refine ⟨?_, fun r hr => ?_⟩
  · rcases g3 with rfl | ⟨b, o, hA, hl, -, -, -, hc⟩
    · exact .inl rfl
    · exact .inr ⟨b, o, hA, hl, hc⟩
  · obtain ⟨k, hk, rfl⟩ := List.getElem_of_mem hr
    obtain ⟨a1, a2, a3⟩ := g1.2.1 k rs[k] (ps[k]'(by rw [g1.1]; exact hk)) (List.getElem?_eq_getElem hk) (List.getElem?_eq_getElem (by rw [g1.1]; exact hk))
    exact ⟨a1.holds, a2, by omega⟩
theorem Span.wider (h : Span lo' hi' w w') (h1 : lo ≤ lo') (h2 : hi' ≤ hi) : Span lo hi w w' := ⟨h.os, h.tape, h.output, h.size, fun k hk hd => h.block k hk (by omega)⟩
theorem Span.cell (h : Span lo hi w w') {p : Addr} (hl : p.block < w.heap.size) (hg : p.block < lo ∨ hi ≤ p.block) : w'.cell? p = w.cell? p := by
  unfold World.cell?
  rw [h.block p.block hl hg]
theorem Span.freeRows (h : Span lo hi w w') (hf : FreeRows w ps rs) (hd : ∀ p ∈ ps, p.2 ≤ lo ∨ hi ≤ p.1) : FreeRows w' ps rs :=
  ⟨hf.1, fun k r p hr hp => ⟨h.fresh (hf.2.1 k r p hr hp).1 (hd p (List.mem_of_getElem? hp)), (hf.2.1 k r p hr hp).2⟩, hf.2.2⟩
theorem Span.freeGrid (h : Span lo hi w w') (hf : FreeGrid w lo' hi' A rs) (hd : hi' ≤ lo ∨ hi ≤ lo') : FreeGrid w' lo' hi' A rs := by
  obtain ⟨ps, g1, g2, g3⟩ := hf
  refine ⟨ps, h.freeRows g1 (fun p hp => by have := g2 p hp; omega), g2, ?_⟩
  rcases g3 with g3 | ⟨b, o, hA, hl, k1, k2, hdd, hc⟩
  · exact .inl g3
  · exact .inr ⟨b, o, hA, Nat.lt_of_lt_of_le hl h.size, k1, k2, hdd, fun j u hu => (h.cell (p := ⟨b, o + j, none⟩) hl (by show b < lo ∨ hi ≤ b; omega)).trans (hc j u hu)⟩
/-- Behind a row that has turned: the others stand as they were. -/
theorem FreeRows.turn (h : FreeRows w ps rs) {k : Nat} {r : RowV} {p : Nat × Nat} (hr : rs[k]? = some r) (hp : ps[k]? = some p) (hs : Span p.1 p.2 w w') {ys : List Int} (hf : Fresh w' p.1 p.2 3 r.A (nums ys)) (hy : ys.length = r.n) : FreeRows w' ps (rs.set k (r.put ys)) := by
  refine ⟨by simp [h.1], fun i r' p' hi hp' => ?_, h.2.2⟩
  rw [List.getElem?_set] at hi
  by_cases he : k = i
  · subst he
    obtain rfl : p = p' := by rw [hp] at hp'; exact Option.some.inj hp'
    rw [if_pos rfl] at hi
    split at hi
    · obtain rfl := Option.some.inj hi
      exact ⟨hf, hy, (h.2.1 k r p hr hp).2.2⟩
    · cases hi
  · rw [if_neg he] at hi
    exact ⟨hs.fresh (h.2.1 i r' p' hi hp').1 (by have := h.2.2 i k p' p (fun e => he e.symm) hp' hp; omega), (h.2.1 i r' p' hi hp').2⟩
theorem FreeGrid.turn (h : FreeGrid w lo hi A rs) {k : Nat} (hk : k < rs.length) : ∃ a b, lo ≤ a ∧ b ≤ hi ∧ Fresh w a b 3 rs[k].A (nums rs[k].xs) ∧ rs[k].xs.length = rs[k].n ∧ rs[k].n ≤ 1048576 ∧
    ∀ w' ys, Span a b w w' → Fresh w' a b 3 rs[k].A (nums ys) → ys.length = rs[k].n → FreeGrid w' lo hi A (rs.set k (rs[k].put ys)) := by
  obtain ⟨ps, g1, g2, g3⟩ := h
  have hk' : k < ps.length := by rw [g1.1]; exact hk
  have e1 : rs[k]? = some rs[k] := List.getElem?_eq_getElem hk
  have e2 : ps[k]? = some ps[k] := List.getElem?_eq_getElem hk'
  have hb := g2 _ (List.getElem_mem hk')
  obtain ⟨f1, f2, f3⟩ := g1.2.1 k _ _ e1 e2
  refine ⟨ps[k].1, ps[k].2, hb.1, hb.2, f1, f2, f3, fun w' ys hs hf hy => ⟨ps, g1.turn e1 e2 hs hf hy, g2, ?_⟩⟩
  rcases g3 with g3 | ⟨b, o, hA, hl, k1, k2, hdd, hc⟩
  · subst g3; simp at hk
  · refine .inr ⟨b, o, hA, Nat.lt_of_lt_of_le hl hs.size, k1, k2, hdd, fun j u hu => (hs.cell (p := ⟨b, o + j, none⟩) hl (by have := hdd _ (List.getElem_mem hk'); show b < ps[k].1 ∨ ps[k].2 ≤ b; omega)).trans (hc j u ?_)⟩
    rw [← hu]
    simp only [rowVals, List.getElem?_map, List.getElem?_set]
    by_cases he : k = j
    · subst he
      rw [if_pos rfl, if_pos hk, e1]
      rfl
    · rw [if_neg he]
end
/-- The ranges of lists that lie one behind the other. -/
theorem OwnRows.free {w : World} : ∀ {rs : List RowV} {lo hi : Nat}, OwnRows w lo hi rs → ∃ ps, FreeRows w ps rs ∧ ∀ p ∈ ps, lo ≤ p.1 ∧ p.2 ≤ hi
  | [], _, _, _ => ⟨[], ⟨rfl, fun k r p hr => by simp at hr, fun i j p p' _ hi => by simp at hi⟩, fun p hp => by cases hp⟩
  | r :: rs, lo, hi, ⟨mid, h1, hf, hl, hn, h2⟩ => by
    obtain ⟨ps, g, hg⟩ := h2.free
    have hle := h2.le
    refine ⟨(lo, mid) :: ps, ⟨by simp [g.1], fun k r' p hr hp => ?_, fun i j p p' hij hi hj => ?_⟩, fun p hp => ?_⟩
    · cases k with
      | zero => simp only [List.getElem?_cons_zero, Option.some.injEq] at hr hp; subst hr hp; exact ⟨hf, hl, hn⟩
      | succ k => simp only [List.getElem?_cons_succ] at hr hp; exact g.2.1 k r' p hr hp
    · cases i with
      | zero =>
        cases j with
        | zero => exact absurd rfl hij
        | succ j =>
          simp only [List.getElem?_cons_zero, List.getElem?_cons_succ, Option.some.injEq] at hi hj
          subst hi
          exact .inl (hg p' (List.mem_of_getElem? hj)).1
      | succ i =>
        cases j with
        | zero =>
          simp only [List.getElem?_cons_zero, List.getElem?_cons_succ, Option.some.injEq] at hi hj
          subst hj
          exact .inr (hg p (List.mem_of_getElem? hi)).1
        | succ j =>
          simp only [List.getElem?_cons_succ] at hi hj
          exact g.2.2 i j p p' (by omega) hi hj
    · rcases List.mem_cons.1 hp with rfl | hp
      · exact ⟨Nat.le_refl _, hle⟩
      · exact ⟨Nat.le_trans h1 (hg p hp).1, (hg p hp).2⟩
theorem OwnGrid.free {w : World} {g hi : Nat} {rs : List RowV} (h : OwnGrid w g hi rs) : FreeGrid w g hi (some ⟨g, 0, none⟩) rs := by
  obtain ⟨ps, h1, h2⟩ := h.2.free
  refine ⟨ps, h1, fun p hp => ⟨by have := (h2 p hp).1; omega, (h2 p hp).2⟩, .inr ⟨g, 0, rfl, h.1.lt, Nat.le_refl _, h.2.le, fun p hp => .inl (h2 p hp).1, fun j u hu => ?_⟩⟩
  rw [Nat.zero_add, h.1.cell j]
  simpa using hu

theorem part_sum {rs : List RowV} : part rs rs.length = (rs.map RowV.n).sum := by simp [part]
theorem part_nums {w : World} {A B : Option Addr} {rs ss : List RowV} (hA : Grid w A rs) {w' : World} (hB : Grid w' B ss) (h : rowNums rs = rowNums ss) : part rs rs.length = part ss ss.length := by
  rw [part_sum, part_sum]
  have e : ∀ {u : World} {C : Option Addr} {ts : List RowV}, Grid u C ts → ts.map RowV.n = (rowNums ts).map List.length := by
    intro u C ts hC
    rw [rowNums, List.map_map]
    exact List.map_congr_left fun r hr => (hC.2 r hr).2.1.symm
  rw [e hA, e hB, h]
theorem part_total (rs : List RowV) : part rs rs.length ≤ total rs := by unfold total; omega

/-- The first k lists overwritten by a count from q on. -/
def markTo (q : Int) (rs : List RowV) (k : Nat) : List RowV := (List.range rs.length).map fun j => if j < k then (rs.getD j ⟨none, 0, 0, []⟩).put (marksI (q + part rs j) (rs.getD j ⟨none, 0, 0, []⟩).n) else rs.getD j ⟨none, 0, 0, []⟩
theorem markTo_len (q : Int) (rs : List RowV) (k : Nat) : (markTo q rs k).length = rs.length := by simp [markTo]
theorem markTo_zero (q : Int) (rs : List RowV) : markTo q rs 0 = rs := by
  apply List.ext_getElem
  · simp [markTo]
  · intro i h1 h2
    simp [markTo, h2]
theorem markTo_at (q : Int) (rs : List RowV) (k i : Nat) (h : i < (markTo q rs k).length) : (markTo q rs k)[i] = if i < k then (rs[i]'(by rw [markTo_len] at h; exact h)).put (marksI (q + part rs i) (rs[i]'(by rw [markTo_len] at h; exact h)).n) else rs[i]'(by rw [markTo_len] at h; exact h) := by
  have h' : i < rs.length := by rw [markTo_len] at h; exact h
  simp [markTo, h']
theorem markTo_here (q : Int) (rs : List RowV) (k : Nat) (h : k < (markTo q rs k).length) : (markTo q rs k)[k] = rs[k]'(by rw [markTo_len] at h; exact h) := by
  rw [markTo_at, if_neg (by omega)]
theorem markTo_next (q : Int) (rs : List RowV) {k : Nat} (h : k < rs.length) : (markTo q rs k).set k (rs[k].put (marksI (q + part rs k) rs[k].n)) = markTo q rs (k + 1) := by
  apply List.ext_getElem
  · simp [markTo_len]
  · intro i h1 h2
    rw [List.getElem_set]
    by_cases he : k = i
    · subst he
      rw [if_pos rfl, markTo_at, if_pos (by omega)]
    · rw [if_neg he, markTo_at, markTo_at]
      by_cases hi : i < k
      · rw [if_pos hi, if_pos (by omega)]
      · rw [if_neg hi, if_neg (by omega)]

set_option maxHeartbeats 800000 in
theorem markIntSS_any (A : Option Addr) (n c lo hi : Nat) (rs : List RowV) (q : Int) (w : World) (hf : FreeGrid w lo hi A rs) (hx : rs.length = n) (h0 : 0 ≤ q) (h1 : q ≤ 2305843009213693952) (hn : n ≤ 1048576) (hp : part rs rs.length ≤ 1048576) :
    Calls Try.prog 31 #[.slice A n c, .int .i64 q] w fun e w' => e = .returned (.int .i64 (q + (part rs rs.length : Nat))) ∧ Span lo hi w w' ∧ FreeGrid w' lo hi A (markTo q rs rs.length) := by
  have HX := Lib.hid hx
  have HM : Hid (FreeGrid w lo hi A (markTo q rs 0)) := by show FreeGrid _ _ _ _ _; rw [markTo_zero]; exact hf
  clear hx hf
  go_enter Try.func31, Try.ntmps31
  go_wp2
  go_loopw [1, 5] (fun v i wr => ∃ k : Nat, k ≤ n ∧ i = .int .i64 k ∧ v = .int .i64 (q + part rs k) ∧ FreeGrid wr lo hi A (markTo q rs k) ∧ Span lo hi w wr) (fun _ i _ => n - (intOf i).toNat)
  case atStart => exact ⟨0, Nat.zero_le _, rfl, by simp [part_zero], HM.out, Span.refl _ _ _⟩
  case round =>
    obtain ⟨k, hk, rfl, rfl, hm, hs⟩ := hrel
    clear HM
    by_cases hlt : k < n
    · have hkr : k < rs.length := by have := HX.out; omega
      have hkm : k < (markTo q rs k).length := by rw [markTo_len]; exact hkr
      obtain ⟨b, o, rfl, hb, hc, hok⟩ := hm.grid.look hkm
      obtain ⟨lo1, hi1, l1, l2, hf, hl, hs1, hturn⟩ := hm.turn hkm
      have hpl := part_le (rs := rs) (Nat.le_refl _) (j := k) (by omega)
      have hpn := part_next hkr
      have HPN := Lib.hid hpn
      have HT := Lib.hid hturn
      have HN := Lib.hid (markTo_next q rs hkr)
      have HF := Lib.hid hf
      have HL := Lib.hid hl
      have HE := Lib.hid (markTo_here q rs k hkm)
      rw [HE.out] at hc
      rw [HE.out] at hs1
      have HS := Lib.hid hs
      clear hm hf hl hturn hok hpn hs
      have hq0 : (0 : Int) ≤ q + part rs k := by omega
      have hq1 : q + (part rs k : Int) ≤ 4611686018427387904 := by omega
      go_wp2_with fail
      refine (markIntS_any rs[k].A rs[k].n _ lo1 hi1 (nums rs[k].xs) _ _ (by rw [← HE.out]; exact HF.out) (by rw [nums_len, ← HE.out]; exact HL.out) hq0 hq1 hs1).mono ?_
      rintro e w1 ⟨rfl, hs2, hf2⟩
      have hsz : Span lo hi w w1 := HS.out.trans (hs2.wider l1 l2)
      have HG : Hid (FreeGrid w1 lo hi (some ⟨b, o, none⟩) (markTo q rs (k + 1))) := by
        show FreeGrid _ _ _ _ _
        rw [← HN.out]
        have h := HT.out w1 (marksI (q + part rs k) rs[k].n) hs2 (by rw [HE.out]; exact hf2) (by rw [marksI_len, HE.out])
        rw [HE.out] at h
        exact h
      clear hs2 hf2 HT
      go_wp2
      go_roundw
      case rel => exact ⟨k + 1, by omega, by go_num, by rw [HPN.out]; first | exact congrArg _ (by omega) | (simp; omega), HG.out, hsz⟩
      case measure => simp [intOf]; omega
    · have hkn : k = rs.length := by have := HX.out; omega
      subst hkn
      go_wp2
      go_ret
      exact ⟨rfl, hs, hm⟩

set_option maxHeartbeats 800000 in
theorem heldIntSS_any (A : Option Addr) (n c : Nat) (rs : List RowV) (q : Int) (w : World) (hA : Grid w A (markTo q rs rs.length)) (hx : rs.length = n) (h0 : 0 ≤ q) (h1 : q ≤ 2305843009213693952) (hn : n ≤ 1048576) (hp : part rs rs.length ≤ 1048576) :
    Calls Try.prog 32 #[.slice A n c, .int .i64 q] w fun e w' => e = .returned (.int .i64 (q + (part rs rs.length : Nat))) ∧ Below w.heap.size w w' := by
  have HX := Lib.hid hx
  clear hx
  go_enter Try.func32, Try.ntmps32
  go_wp2
  go_loop [1, 5] (fun v i => ∃ k : Nat, k ≤ n ∧ i = .int .i64 k ∧ v = .int .i64 (q + part rs k)) (fun _ i => n - (intOf i).toNat)
  case atStart => exact ⟨0, Nat.zero_le _, rfl, by simp [part_zero]⟩
  case round =>
    obtain ⟨k, hk, rfl, rfl⟩ := hrel
    by_cases hlt : k < n
    · have hkr : k < rs.length := by have := HX.out; omega
      have hkm : k < (markTo q rs rs.length).length := by rw [markTo_len]; exact hkr
      obtain ⟨b, o, rfl, hb, hc, hok⟩ := hA.look hkm
      have he : (markTo q rs rs.length)[k] = (rs[k].put (marksI (q + part rs k) rs[k].n)) := by rw [markTo_at, if_pos hkr]
      rw [he] at hc hok
      have hpl := part_le (rs := rs) (Nat.le_refl _) (j := k + 1) (by omega)
      have hpn := part_next hkr
      have hs1 : rs[k].n ≤ 1048576 := by omega
      have HPN := Lib.hid hpn
      have HOK := Lib.hid hok.1
      have hq0 : (0 : Int) ≤ q + part rs k := by omega
      have hq1 : q + (part rs k : Int) ≤ 4611686018427387904 := by omega
      have hq2 : (0 : Int) ≤ q + part rs k + rs[k].n := by omega
      clear he hok hpn
      simp only [RowV.put] at hc
      go_wp2_with fail
      refine (heldIntS_any rs[k].A rs[k].n _ _ _ HOK.out hq0 hq1 hs1).mono ?_
      rintro e w1 ⟨rfl, rfl⟩
      go_wp2
      go_round
      case rel => exact ⟨k + 1, by omega, by go_num, by rw [HPN.out]; first | exact congrArg _ (by omega) | (simp; omega)⟩
      case measure => simp [intOf]; omega
    · have hkn : k = rs.length := by have := HX.out; omega
      subst hkn
      go_wp2
      go_ret
      exact ⟨rfl, Below.refl _ _⟩
end Go.Proofs.Ytkocompjjogciaa

namespace Go.Proofs.Ytkocompjjogciaa
open Go.RowKit

theorem OwnGrid.set_out {w : World} {g hi b o : Nat} {u : Value} {rs : List RowV} (h : OwnGrid w g hi rs) (hb : b < g) : OwnGrid (w.setCell ⟨b, o, none⟩ u) g hi rs :=
  ⟨h.1.off (by omega), h.2.set_out (.inl (by omega))⟩

set_option maxHeartbeats 800000 in
theorem szKeep_any (k : Int) (A : Option Addr) (n c : Nat) (rs : List RowV) (s l : Int) (w : World) (hA : Grid w A rs) (hx : rs.length = n) (hn : n ≤ 9223372036854775807) (h0 : 0 ≤ l) (h1 : l ≤ 1048576) :
    Calls Try.prog 67 #[.agg #[.int .i64 k, .slice A n c, .int .i64 s], .int .i64 l] w fun e w' => e = .returned (.int .i64 (if l - (total rs : Int) < 0 then -1 else l - (total rs : Int))) ∧ Below w.heap.size w w' := by
  have HX := Lib.hid hx
  clear hx
  by_cases h : l - (total rs : Int) < 0
  · have hb1 := below1 w (.cells #[.int .i64 k, .slice A n c, .int .i64 s] 30)
    go_enter Try.func67, Try.ntmps67
    go_wp2_with fail
    refine (szIntSS_any A n c rs l _ (hA.below hb1) HX.out hn h0 h1).mono ?_
    rintro e w' ⟨rfl, rfl⟩
    rw [totalLeft, if_pos (by omega)]
    go_wp2
    go_ret
    exact ⟨rfl, hb1⟩
  · have hb1 := below1 w (.cells #[.int .i64 k, .slice A n c, .int .i64 s] 30)
    have h' : ¬ l - (total rs : Int) < 0 := h
    go_enter Try.func67, Try.ntmps67
    go_wp2_with fail
    refine (szIntSS_any A n c rs l _ (hA.below hb1) HX.out hn h0 h1).mono ?_
    rintro e w' ⟨rfl, rfl⟩
    rw [totalLeft, if_neg (by omega)]
    go_wp2
    go_ret
    exact ⟨rfl, hb1⟩

/-- What toKeep hands back. -/
def KeepTo (k : Int) (n : Nat) (s : Int) (rs : List RowV) (w : World) (e : Ending) (w' : World) : Prop :=
  ∃ (g : Nat) (ws : List RowV), e = .returned (.agg #[.int .i64 k, .slice (some ⟨g, 0, none⟩) n n, .int .i64 s]) ∧ w.heap.size ≤ g ∧ OwnGrid w' g w'.heap.size ws ∧ rowNums ws = rowNums rs ∧ ws.length = n ∧ Below w.heap.size w w'

set_option maxHeartbeats 800000 in
theorem toKeep_own (k : Int) (A : Option Addr) (n c : Nat) (rs : List RowV) (s : Int) (w : World) (hA : Grid w A rs) (hx : rs.length = n) (ht : total rs ≤ 1048576) :
    Calls Try.prog 70 #[.agg #[.int .i64 k, .slice A n c, .int .i64 s]] w (KeepTo k n s rs w) := by
  have HX := Lib.hid hx
  clear hx
  go_enter Try.func70, Try.ntmps70
  go_wp2_with fail
  refine (toIntSS_any A n c rs _ (by exact hA.below (below3 w _ _ _)) HX.out ht).mono ?_
  rintro e w1 ⟨g, ws, rfl, hg, hw, he, hl, hb⟩
  obtain ⟨hc, hf⟩ := kept hb
  have hg' : w.heap.size + 3 ≤ g := by simpa using hg
  have hz : w.heap.size + 3 ≤ w1.heap.size := by have := hb.size; simpa using this
  have HB := Lib.hid (below_then (below3 w _ _ _) hb (by simp; omega))
  have HG := Lib.hid hw
  have HE := Lib.hid he
  have HL := Lib.hid hl
  clear hw hg he hl hb
  go_wp2
  refine bodyPost_ret (v := .agg #[.int .i64 k, .slice (some ⟨g, 0, none⟩) n n, .int .i64 s]) (by simp [results, Try.results70, go_sem, hc]) rfl ⟨g, ws, rfl, by omega, ?_, HE.out, HL.out, ?_⟩
  · have h := (((((HG.out.set_out (b := w.heap.size + 1 + 1) (o := 1) (u := .slice (some ⟨g, 0, none⟩) n n) (by omega)).set_out (b := w.heap.size + 1 + 1) (o := 2) (u := .int .i64 s) (by omega)).set_out (b := w.heap.size + 1) (o := 0) (u := .int .i64 k) (by omega)).set_out (b := w.heap.size + 1) (o := 1) (u := .slice (some ⟨g, 0, none⟩) n n) (by omega)).set_out (b := w.heap.size + 1) (o := 2) (u := .int .i64 s) (by omega))
    simpa [World.setCell] using h
  · exact below_set (below_set (below_set (below_set (below_set HB.out (by omega)) (by omega)) (by omega)) (by omega)) (by omega)

set_option maxHeartbeats 800000 in
theorem eqKeep_yes (k : Int) (A B : Option Addr) (n m c d : Nat) (s : Int) (rs ss : List RowV) (w : World) (hA : Grid w A rs) (hB : Grid w B ss) (he : rowNums rs = rowNums ss) (hx : rs.length = n) (hy : ss.length = m) (hn : n ≤ 9223372036854775807) :
    Calls Try.prog 75 #[.agg #[.int .i64 k, .slice A n c, .int .i64 s], .agg #[.int .i64 k, .slice B m d, .int .i64 s]] w fun e w' => e = .returned (.bool true) ∧ Below w.heap.size w w' := by
  have HX := Lib.hid hx
  have HY := Lib.hid hy
  have HE := Lib.hid he
  clear hx hy he
  have hkk : (!(k == k)) = false := by simp
  have hss : (!(s == s)) = false := by simp
  have hb2 := below2 w (.cells #[.int .i64 k, .slice A n c, .int .i64 s] 39) (.cells #[.int .i64 k, .slice B m d, .int .i64 s] 39)
  have h0 := (Whole.fresh w 39 #[.int .i64 k, .slice A n c, .int .i64 s]).alloc (.cells #[.int .i64 k, .slice B m d, .int .i64 s] 39)
  have h1 := Whole.fresh (w.alloc (.cells #[.int .i64 k, .slice A n c, .int .i64 s] 39)) 39 #[.int .i64 k, .slice B m d, .int .i64 s]
  rw [World.size_alloc] at h1
  go_enter Try.func75, Try.ntmps75
  go_wp2_with fail
  refine (eqIntSS_yes A B n m c d rs ss _ (by exact hA.below hb2) (by exact hB.below hb2) HE.out HX.out HY.out hn).mono ?_
  rintro e w1 ⟨rfl, hb⟩
  have ht := below_then hb2 hb (by simp; omega)
  obtain ⟨a0, a1, a2⟩ := (h0.below hb).cells3
  obtain ⟨b0, b1, b2⟩ := (h1.below hb).cells3
  go_wp2
  go_ret
  exact ⟨rfl, ht⟩

end Go.Proofs.Ytkocompjjogciaa

namespace Go.Proofs.Ytkocompjjogciaa
open Go.RowKit

def deskLeft (n m T cn dn : Nat) : Int := if (1048576 : Int) - n - m - T - cn - dn < 0 then -1 else 1048576 - n - m - T - cn - dn
/-- A desk's lists as they lie. -/
structure DeskIn (w : World) (A : Option Addr) (xs : List Int) (B : Option Addr) (bs : List Bool) (G : Option Addr) (rs : List RowV) (C : Option Addr) (ys : List Int) (D : Option Addr) (ds : List Bool) : Prop where
  a : Holds w A (nums xs)
  b : Holds w B (bits bs)
  g : Grid w G rs
  c : Holds w C (nums ys)
  d : Holds w D (bits ds)
theorem DeskIn.below {w w' : World} {A : Option Addr} {xs : List Int} {B : Option Addr} {bs : List Bool} {G : Option Addr} {rs : List RowV} {C : Option Addr} {ys : List Int} {D : Option Addr} {ds : List Bool} (h : DeskIn w A xs B bs G rs C ys D ds) (hb : Below w.heap.size w w') : DeskIn w' A xs B bs G rs C ys D ds :=
  ⟨h.a.below hb, h.b.below hb, h.g.below hb, h.c.below hb, h.d.below hb⟩

set_option maxHeartbeats 3200000 in
set_option maxRecDepth 100000 in
set_option linter.unusedVariables false in
set_option linter.unusedSimpArgs false in
theorem szDesk_any (A : Option Addr) (n c : Nat) (s : Int) (B : Option Addr) (m d : Nat) (t : Bool) (k : Int) (G : Option Addr) (gn gc : Nat) (rs : List RowV) (q : Int) (C : Option Addr) (cn cc : Nat) (D : Option Addr) (dn dc : Nat) (p : Int) (w : World) (hG : Grid w G rs) (hz : rs.length = gn) (hn : n ≤ 9223372036854775807) (hm : m ≤ 9223372036854775807) (hgn : gn ≤ 9223372036854775807) (hcn : cn ≤ 9223372036854775807) (hdn : dn ≤ 9223372036854775807) :
    Calls Try.prog 15 #[.agg #[.slice A n c, .int .i64 s, .slice B m d, .bool t, .int .i64 k, .slice G gn gc, .int .i64 q, .slice C cn cc, .slice D dn dc, .int .i64 p], .int .i64 1048576] w fun e w' => e = .returned (.int .i64 (deskLeft n m (total rs) cn dn)) ∧ Below w.heap.size w w' := by
  have HG := Lib.hid hG
  have HZ := Lib.hid hz
  have hq := Whole.fresh w 34 #[.slice A n c, .int .i64 s, .slice B m d, .bool t, .int .i64 k, .slice G gn gc, .int .i64 q, .slice C cn cc, .slice D dn dc, .int .i64 p]
  have ht := below1 w (.cells #[.slice A n c, .int .i64 s, .slice B m d, .bool t, .int .i64 k, .slice G gn gc, .int .i64 q, .slice C cn cc, .slice D dn dc, .int .i64 p] 34)
  obtain ⟨T, hT⟩ : ∃ T, total rs = T := ⟨_, rfl⟩
  have HTT := Lib.hid hT
  rw [hT]
  clear hG hz hT
  by_cases g0 : (1048576 : Int) < n
  · have HR : Hid (deskLeft n m T cn dn = -1) := by show _ = _; rw [deskLeft, if_pos (by omega)]
    have k0 := hq.cell 0
    have k1 := hq.cell 1
    have k2 := hq.cell 2
    have k3 := hq.cell 3
    have k4 := hq.cell 4
    have k5 := hq.cell 5
    have k6 := hq.cell 6
    have k7 := hq.cell 7
    have k8 := hq.cell 8
    have k9 := hq.cell 9
    have kl := hq.lt
    go_enter Try.func15, Try.ntmps15
    go_wp2_with fail
    refine (szParty_any A n c s 1048576 _ hn (by omega) (by omega)).mono ?_
    rintro e w1 ⟨rfl, hb⟩
    rw [if_pos (by omega)]
    replace ht := below_then ht hb ht.size
    replace hq := hq.below hb
    clear hb k0 k1 k2 k3 k4 k5 k6 k7 k8 k9 kl
    have k0 := hq.cell 0
    have k1 := hq.cell 1
    have k2 := hq.cell 2
    have k3 := hq.cell 3
    have k4 := hq.cell 4
    have k5 := hq.cell 5
    have k6 := hq.cell 6
    have k7 := hq.cell 7
    have k8 := hq.cell 8
    have k9 := hq.cell 9
    have kl := hq.lt
    go_wp2
    go_ret
    exact ⟨by rw [HR.out]; rfl, ht⟩
  by_cases g1 : (1048576 : Int) - n < m
  · have HR : Hid (deskLeft n m T cn dn = -1) := by show _ = _; rw [deskLeft, if_pos (by omega)]
    have k0 := hq.cell 0
    have k1 := hq.cell 1
    have k2 := hq.cell 2
    have k3 := hq.cell 3
    have k4 := hq.cell 4
    have k5 := hq.cell 5
    have k6 := hq.cell 6
    have k7 := hq.cell 7
    have k8 := hq.cell 8
    have k9 := hq.cell 9
    have kl := hq.lt
    go_enter Try.func15, Try.ntmps15
    go_wp2_with fail
    refine (szParty_any A n c s 1048576 _ hn (by omega) (by omega)).mono ?_
    rintro e w1 ⟨rfl, hb⟩
    rw [if_neg (by omega)]
    replace ht := below_then ht hb ht.size
    replace hq := hq.below hb
    clear hb k0 k1 k2 k3 k4 k5 k6 k7 k8 k9 kl
    have k0 := hq.cell 0
    have k1 := hq.cell 1
    have k2 := hq.cell 2
    have k3 := hq.cell 3
    have k4 := hq.cell 4
    have k5 := hq.cell 5
    have k6 := hq.cell 6
    have k7 := hq.cell 7
    have k8 := hq.cell 8
    have k9 := hq.cell 9
    have kl := hq.lt
    go_wp2_with fail
    refine (szState_any B m d t (1048576 - n) _ hm (by omega) (by omega)).mono ?_
    rintro e w2 ⟨rfl, hb⟩
    rw [if_pos (by omega)]
    replace ht := below_then ht hb ht.size
    replace hq := hq.below hb
    clear hb k0 k1 k2 k3 k4 k5 k6 k7 k8 k9 kl
    have k0 := hq.cell 0
    have k1 := hq.cell 1
    have k2 := hq.cell 2
    have k3 := hq.cell 3
    have k4 := hq.cell 4
    have k5 := hq.cell 5
    have k6 := hq.cell 6
    have k7 := hq.cell 7
    have k8 := hq.cell 8
    have k9 := hq.cell 9
    have kl := hq.lt
    go_wp2
    go_ret
    exact ⟨by rw [HR.out]; rfl, ht⟩
  by_cases g2 : (1048576 : Int) - n - m - T < 0
  · have HR : Hid (deskLeft n m T cn dn = -1) := by show _ = _; rw [deskLeft, if_pos (by omega)]
    have k0 := hq.cell 0
    have k1 := hq.cell 1
    have k2 := hq.cell 2
    have k3 := hq.cell 3
    have k4 := hq.cell 4
    have k5 := hq.cell 5
    have k6 := hq.cell 6
    have k7 := hq.cell 7
    have k8 := hq.cell 8
    have k9 := hq.cell 9
    have kl := hq.lt
    go_enter Try.func15, Try.ntmps15
    go_wp2_with fail
    refine (szParty_any A n c s 1048576 _ hn (by omega) (by omega)).mono ?_
    rintro e w1 ⟨rfl, hb⟩
    rw [if_neg (by omega)]
    replace ht := below_then ht hb ht.size
    replace hq := hq.below hb
    clear hb k0 k1 k2 k3 k4 k5 k6 k7 k8 k9 kl
    have k0 := hq.cell 0
    have k1 := hq.cell 1
    have k2 := hq.cell 2
    have k3 := hq.cell 3
    have k4 := hq.cell 4
    have k5 := hq.cell 5
    have k6 := hq.cell 6
    have k7 := hq.cell 7
    have k8 := hq.cell 8
    have k9 := hq.cell 9
    have kl := hq.lt
    go_wp2_with fail
    refine (szState_any B m d t (1048576 - n) _ hm (by omega) (by omega)).mono ?_
    rintro e w2 ⟨rfl, hb⟩
    rw [if_neg (by omega)]
    replace ht := below_then ht hb ht.size
    replace hq := hq.below hb
    clear hb k0 k1 k2 k3 k4 k5 k6 k7 k8 k9 kl
    have k0 := hq.cell 0
    have k1 := hq.cell 1
    have k2 := hq.cell 2
    have k3 := hq.cell 3
    have k4 := hq.cell 4
    have k5 := hq.cell 5
    have k6 := hq.cell 6
    have k7 := hq.cell 7
    have k8 := hq.cell 8
    have k9 := hq.cell 9
    have kl := hq.lt
    go_wp2_with fail
    refine (szKeep_any k G gn gc rs q (1048576 - n - m) _ (HG.out.below ht) HZ.out hgn (by omega) (by omega)).mono ?_
    rintro e w3 ⟨rfl, hb⟩
    rw [HTT.out]
    rw [if_pos (by omega)]
    replace ht := below_then ht hb ht.size
    replace hq := hq.below hb
    clear hb k0 k1 k2 k3 k4 k5 k6 k7 k8 k9 kl
    have k0 := hq.cell 0
    have k1 := hq.cell 1
    have k2 := hq.cell 2
    have k3 := hq.cell 3
    have k4 := hq.cell 4
    have k5 := hq.cell 5
    have k6 := hq.cell 6
    have k7 := hq.cell 7
    have k8 := hq.cell 8
    have k9 := hq.cell 9
    have kl := hq.lt
    go_wp2
    go_ret
    exact ⟨by rw [HR.out]; rfl, ht⟩
  by_cases g3 : (1048576 : Int) - n - m - T - cn - dn < 0
  · have HR : Hid (deskLeft n m T cn dn = -1) := by show _ = _; rw [deskLeft, if_pos (by omega)]
    have k0 := hq.cell 0
    have k1 := hq.cell 1
    have k2 := hq.cell 2
    have k3 := hq.cell 3
    have k4 := hq.cell 4
    have k5 := hq.cell 5
    have k6 := hq.cell 6
    have k7 := hq.cell 7
    have k8 := hq.cell 8
    have k9 := hq.cell 9
    have kl := hq.lt
    go_enter Try.func15, Try.ntmps15
    go_wp2_with fail
    refine (szParty_any A n c s 1048576 _ hn (by omega) (by omega)).mono ?_
    rintro e w1 ⟨rfl, hb⟩
    rw [if_neg (by omega)]
    replace ht := below_then ht hb ht.size
    replace hq := hq.below hb
    clear hb k0 k1 k2 k3 k4 k5 k6 k7 k8 k9 kl
    have k0 := hq.cell 0
    have k1 := hq.cell 1
    have k2 := hq.cell 2
    have k3 := hq.cell 3
    have k4 := hq.cell 4
    have k5 := hq.cell 5
    have k6 := hq.cell 6
    have k7 := hq.cell 7
    have k8 := hq.cell 8
    have k9 := hq.cell 9
    have kl := hq.lt
    go_wp2_with fail
    refine (szState_any B m d t (1048576 - n) _ hm (by omega) (by omega)).mono ?_
    rintro e w2 ⟨rfl, hb⟩
    rw [if_neg (by omega)]
    replace ht := below_then ht hb ht.size
    replace hq := hq.below hb
    clear hb k0 k1 k2 k3 k4 k5 k6 k7 k8 k9 kl
    have k0 := hq.cell 0
    have k1 := hq.cell 1
    have k2 := hq.cell 2
    have k3 := hq.cell 3
    have k4 := hq.cell 4
    have k5 := hq.cell 5
    have k6 := hq.cell 6
    have k7 := hq.cell 7
    have k8 := hq.cell 8
    have k9 := hq.cell 9
    have kl := hq.lt
    go_wp2_with fail
    refine (szKeep_any k G gn gc rs q (1048576 - n - m) _ (HG.out.below ht) HZ.out hgn (by omega) (by omega)).mono ?_
    rintro e w3 ⟨rfl, hb⟩
    rw [HTT.out]
    rw [if_neg (by omega)]
    replace ht := below_then ht hb ht.size
    replace hq := hq.below hb
    clear hb k0 k1 k2 k3 k4 k5 k6 k7 k8 k9 kl
    have k0 := hq.cell 0
    have k1 := hq.cell 1
    have k2 := hq.cell 2
    have k3 := hq.cell 3
    have k4 := hq.cell 4
    have k5 := hq.cell 5
    have k6 := hq.cell 6
    have k7 := hq.cell 7
    have k8 := hq.cell 8
    have k9 := hq.cell 9
    have kl := hq.lt
    go_wp2_with fail
    refine (szCrew_any C cn cc D dn dc p (1048576 - n - m - T) _ hcn hdn (by omega) (by omega)).mono ?_
    rintro e w4 ⟨rfl, hb⟩
    rw [crewLeft_bad (by omega)]
    replace ht := below_then ht hb ht.size
    replace hq := hq.below hb
    clear hb k0 k1 k2 k3 k4 k5 k6 k7 k8 k9 kl
    have k0 := hq.cell 0
    have k1 := hq.cell 1
    have k2 := hq.cell 2
    have k3 := hq.cell 3
    have k4 := hq.cell 4
    have k5 := hq.cell 5
    have k6 := hq.cell 6
    have k7 := hq.cell 7
    have k8 := hq.cell 8
    have k9 := hq.cell 9
    have kl := hq.lt
    go_wp2
    go_ret
    exact ⟨by rw [HR.out]; rfl, ht⟩
  have HR : Hid (deskLeft n m T cn dn = 1048576 - n - m - T - cn - dn) := by show _ = _; rw [deskLeft, if_neg (by omega)]
  have k0 := hq.cell 0
  have k1 := hq.cell 1
  have k2 := hq.cell 2
  have k3 := hq.cell 3
  have k4 := hq.cell 4
  have k5 := hq.cell 5
  have k6 := hq.cell 6
  have k7 := hq.cell 7
  have k8 := hq.cell 8
  have k9 := hq.cell 9
  have kl := hq.lt
  go_enter Try.func15, Try.ntmps15
  go_wp2_with fail
  refine (szParty_any A n c s 1048576 _ hn (by omega) (by omega)).mono ?_
  rintro e w1 ⟨rfl, hb⟩
  rw [if_neg (by omega)]
  replace ht := below_then ht hb ht.size
  replace hq := hq.below hb
  clear hb k0 k1 k2 k3 k4 k5 k6 k7 k8 k9 kl
  have k0 := hq.cell 0
  have k1 := hq.cell 1
  have k2 := hq.cell 2
  have k3 := hq.cell 3
  have k4 := hq.cell 4
  have k5 := hq.cell 5
  have k6 := hq.cell 6
  have k7 := hq.cell 7
  have k8 := hq.cell 8
  have k9 := hq.cell 9
  have kl := hq.lt
  go_wp2_with fail
  refine (szState_any B m d t (1048576 - n) _ hm (by omega) (by omega)).mono ?_
  rintro e w2 ⟨rfl, hb⟩
  rw [if_neg (by omega)]
  replace ht := below_then ht hb ht.size
  replace hq := hq.below hb
  clear hb k0 k1 k2 k3 k4 k5 k6 k7 k8 k9 kl
  have k0 := hq.cell 0
  have k1 := hq.cell 1
  have k2 := hq.cell 2
  have k3 := hq.cell 3
  have k4 := hq.cell 4
  have k5 := hq.cell 5
  have k6 := hq.cell 6
  have k7 := hq.cell 7
  have k8 := hq.cell 8
  have k9 := hq.cell 9
  have kl := hq.lt
  go_wp2_with fail
  refine (szKeep_any k G gn gc rs q (1048576 - n - m) _ (HG.out.below ht) HZ.out hgn (by omega) (by omega)).mono ?_
  rintro e w3 ⟨rfl, hb⟩
  rw [HTT.out]
  rw [if_neg (by omega)]
  replace ht := below_then ht hb ht.size
  replace hq := hq.below hb
  clear hb k0 k1 k2 k3 k4 k5 k6 k7 k8 k9 kl
  have k0 := hq.cell 0
  have k1 := hq.cell 1
  have k2 := hq.cell 2
  have k3 := hq.cell 3
  have k4 := hq.cell 4
  have k5 := hq.cell 5
  have k6 := hq.cell 6
  have k7 := hq.cell 7
  have k8 := hq.cell 8
  have k9 := hq.cell 9
  have kl := hq.lt
  go_wp2_with fail
  refine (szCrew_any C cn cc D dn dc p (1048576 - n - m - T) _ hcn hdn (by omega) (by omega)).mono ?_
  rintro e w4 ⟨rfl, hb⟩
  rw [crewLeft_ok (by omega)]
  replace ht := below_then ht hb ht.size
  replace hq := hq.below hb
  clear hb k0 k1 k2 k3 k4 k5 k6 k7 k8 k9 kl
  have k0 := hq.cell 0
  have k1 := hq.cell 1
  have k2 := hq.cell 2
  have k3 := hq.cell 3
  have k4 := hq.cell 4
  have k5 := hq.cell 5
  have k6 := hq.cell 6
  have k7 := hq.cell 7
  have k8 := hq.cell 8
  have k9 := hq.cell 9
  have kl := hq.lt
  go_wp2
  go_ret
  exact ⟨by rw [HR.out]; rfl, ht⟩

set_option maxHeartbeats 3200000 in
set_option maxRecDepth 100000 in
set_option linter.unusedVariables false in
set_option linter.unusedSimpArgs false in
theorem eqDesk_yes (A : Option Addr) (n c : Nat) (s : Int) (B : Option Addr) (m d : Nat) (t : Bool) (k : Int) (G : Option Addr) (gn gc : Nat) (rs : List RowV) (q : Int) (C : Option Addr) (cn cc : Nat) (D : Option Addr) (dn dc : Nat) (p : Int) (xs : List Int) (bs : List Bool) (ys : List Int) (ds : List Bool) (A' B' G' C' D' : Option Addr) (c' d' gc' cc' dc' : Nat) (ss : List RowV) (w : World) (h1 : DeskIn w A xs B bs G rs C ys D ds) (h2 : DeskIn w A' xs B' bs G' ss C' ys D' ds) (he : rowNums rs = rowNums ss) (hx : xs.length = n) (hy : bs.length = m) (hz : rs.length = gn) (hz' : ss.length = gn) (hv : ys.length = cn) (hu : ds.length = dn) (hn : n ≤ 9223372036854775807) (hm : m ≤ 9223372036854775807) (hgn : gn ≤ 9223372036854775807) (hcn : cn ≤ 9223372036854775807) (hdn : dn ≤ 9223372036854775807) :
    Calls Try.prog 19 #[.agg #[.slice A n c, .int .i64 s, .slice B m d, .bool t, .int .i64 k, .slice G gn gc, .int .i64 q, .slice C cn cc, .slice D dn dc, .int .i64 p], .agg #[.slice A' n c', .int .i64 s, .slice B' m d', .bool t, .int .i64 k, .slice G' gn gc', .int .i64 q, .slice C' cn cc', .slice D' dn dc', .int .i64 p]] w fun e w' => e = .returned (.bool true) ∧ Below w.heap.size w w' := by
  have H1 := Lib.hid h1
  have H2 := Lib.hid h2
  have HE := Lib.hid he
  have HX := Lib.hid hx
  have HY := Lib.hid hy
  have HZ := Lib.hid hz
  have HZ' := Lib.hid hz'
  have HV := Lib.hid hv
  have HU := Lib.hid hu
  have hq := (Whole.fresh w 42 #[.slice A n c, .int .i64 s, .slice B m d, .bool t, .int .i64 k, .slice G gn gc, .int .i64 q, .slice C cn cc, .slice D dn dc, .int .i64 p]).alloc (.cells #[.slice A' n c', .int .i64 s, .slice B' m d', .bool t, .int .i64 k, .slice G' gn gc', .int .i64 q, .slice C' cn cc', .slice D' dn dc', .int .i64 p] 42)
  have hr := Whole.fresh (w.alloc (.cells #[.slice A n c, .int .i64 s, .slice B m d, .bool t, .int .i64 k, .slice G gn gc, .int .i64 q, .slice C cn cc, .slice D dn dc, .int .i64 p] 42)) 42 #[.slice A' n c', .int .i64 s, .slice B' m d', .bool t, .int .i64 k, .slice G' gn gc', .int .i64 q, .slice C' cn cc', .slice D' dn dc', .int .i64 p]
  rw [World.size_alloc] at hr
  have ht := below2 w (.cells #[.slice A n c, .int .i64 s, .slice B m d, .bool t, .int .i64 k, .slice G gn gc, .int .i64 q, .slice C cn cc, .slice D dn dc, .int .i64 p] 42) (.cells #[.slice A' n c', .int .i64 s, .slice B' m d', .bool t, .int .i64 k, .slice G' gn gc', .int .i64 q, .slice C' cn cc', .slice D' dn dc', .int .i64 p] 42)
  clear h1 h2 he hx hy hz hz' hv hu
  have k0 := hq.cell 0
  have k1 := hq.cell 1
  have k2 := hq.cell 2
  have k3 := hq.cell 3
  have k4 := hq.cell 4
  have k5 := hq.cell 5
  have k6 := hq.cell 6
  have k7 := hq.cell 7
  have k8 := hq.cell 8
  have k9 := hq.cell 9
  have kl := hq.lt
  have j0 := hr.cell 0
  have j1 := hr.cell 1
  have j2 := hr.cell 2
  have j3 := hr.cell 3
  have j4 := hr.cell 4
  have j5 := hr.cell 5
  have j6 := hr.cell 6
  have j7 := hr.cell 7
  have j8 := hr.cell 8
  have j9 := hr.cell 9
  have jl := hr.lt
  go_enter Try.func19, Try.ntmps19
  go_wp2_with fail
  refine (eqParty_yes A A' n c c' xs s _ (H1.out.below ht).a (H2.out.below ht).a HX.out hn).mono ?_
  rintro e w1 ⟨rfl, hb⟩
  replace ht := below_then ht hb ht.size
  replace hq := hq.below hb
  replace hr := hr.below hb
  clear hb k0 k1 k2 k3 k4 k5 k6 k7 k8 k9 kl j0 j1 j2 j3 j4 j5 j6 j7 j8 j9 jl
  have k0 := hq.cell 0
  have k1 := hq.cell 1
  have k2 := hq.cell 2
  have k3 := hq.cell 3
  have k4 := hq.cell 4
  have k5 := hq.cell 5
  have k6 := hq.cell 6
  have k7 := hq.cell 7
  have k8 := hq.cell 8
  have k9 := hq.cell 9
  have kl := hq.lt
  have j0 := hr.cell 0
  have j1 := hr.cell 1
  have j2 := hr.cell 2
  have j3 := hr.cell 3
  have j4 := hr.cell 4
  have j5 := hr.cell 5
  have j6 := hr.cell 6
  have j7 := hr.cell 7
  have j8 := hr.cell 8
  have j9 := hr.cell 9
  have jl := hr.lt
  go_wp2_with fail
  refine (eqState_yes B B' m d d' bs t _ (H1.out.below ht).b (H2.out.below ht).b HY.out hm).mono ?_
  rintro e w2 ⟨rfl, hb⟩
  replace ht := below_then ht hb ht.size
  replace hq := hq.below hb
  replace hr := hr.below hb
  clear hb k0 k1 k2 k3 k4 k5 k6 k7 k8 k9 kl j0 j1 j2 j3 j4 j5 j6 j7 j8 j9 jl
  have k0 := hq.cell 0
  have k1 := hq.cell 1
  have k2 := hq.cell 2
  have k3 := hq.cell 3
  have k4 := hq.cell 4
  have k5 := hq.cell 5
  have k6 := hq.cell 6
  have k7 := hq.cell 7
  have k8 := hq.cell 8
  have k9 := hq.cell 9
  have kl := hq.lt
  have j0 := hr.cell 0
  have j1 := hr.cell 1
  have j2 := hr.cell 2
  have j3 := hr.cell 3
  have j4 := hr.cell 4
  have j5 := hr.cell 5
  have j6 := hr.cell 6
  have j7 := hr.cell 7
  have j8 := hr.cell 8
  have j9 := hr.cell 9
  have jl := hr.lt
  go_wp2_with fail
  refine (eqKeep_yes k G G' gn gn gc gc' q rs ss _ (H1.out.below ht).g (H2.out.below ht).g HE.out HZ.out HZ'.out hgn).mono ?_
  rintro e w3 ⟨rfl, hb⟩
  replace ht := below_then ht hb ht.size
  replace hq := hq.below hb
  replace hr := hr.below hb
  clear hb k0 k1 k2 k3 k4 k5 k6 k7 k8 k9 kl j0 j1 j2 j3 j4 j5 j6 j7 j8 j9 jl
  have k0 := hq.cell 0
  have k1 := hq.cell 1
  have k2 := hq.cell 2
  have k3 := hq.cell 3
  have k4 := hq.cell 4
  have k5 := hq.cell 5
  have k6 := hq.cell 6
  have k7 := hq.cell 7
  have k8 := hq.cell 8
  have k9 := hq.cell 9
  have kl := hq.lt
  have j0 := hr.cell 0
  have j1 := hr.cell 1
  have j2 := hr.cell 2
  have j3 := hr.cell 3
  have j4 := hr.cell 4
  have j5 := hr.cell 5
  have j6 := hr.cell 6
  have j7 := hr.cell 7
  have j8 := hr.cell 8
  have j9 := hr.cell 9
  have jl := hr.lt
  go_wp2_with fail
  refine (eqCrew_yes C C' cn cc cc' ys D D' dn dc dc' ds p _ (H1.out.below ht).c (H2.out.below ht).c (H1.out.below ht).d (H2.out.below ht).d HV.out HU.out hcn hdn).mono ?_
  rintro e w4 ⟨rfl, hb⟩
  replace ht := below_then ht hb ht.size
  replace hq := hq.below hb
  replace hr := hr.below hb
  clear hb k0 k1 k2 k3 k4 k5 k6 k7 k8 k9 kl j0 j1 j2 j3 j4 j5 j6 j7 j8 j9 jl
  have k0 := hq.cell 0
  have k1 := hq.cell 1
  have k2 := hq.cell 2
  have k3 := hq.cell 3
  have k4 := hq.cell 4
  have k5 := hq.cell 5
  have k6 := hq.cell 6
  have k7 := hq.cell 7
  have k8 := hq.cell 8
  have k9 := hq.cell 9
  have kl := hq.lt
  have j0 := hr.cell 0
  have j1 := hr.cell 1
  have j2 := hr.cell 2
  have j3 := hr.cell 3
  have j4 := hr.cell 4
  have j5 := hr.cell 5
  have j6 := hr.cell 6
  have j7 := hr.cell 7
  have j8 := hr.cell 8
  have j9 := hr.cell 9
  have jl := hr.lt
  go_wp2
  go_ret
  exact ⟨rfl, ht⟩
/-- What toDesk hands back. -/
def DeskTo (xs : List Int) (n : Nat) (s : Int) (bs : List Bool) (m : Nat) (t : Bool) (k : Int) (rs : List RowV) (gn : Nat) (q : Int) (ys : List Int) (cn : Nat) (ds : List Bool) (dn : Nat) (p : Int) (w : World) (e : Ending) (w' : World) : Prop :=
  ∃ (gA gB gG gC gD : Nat) (ws : List RowV), e = .returned (.agg #[.slice (some ⟨gA, 0, none⟩) n n, .int .i64 s, .slice (some ⟨gB, 0, none⟩) m m, .bool t, .int .i64 k, .slice (some ⟨gG, 0, none⟩) gn gn, .int .i64 q, .slice (some ⟨gC, 0, none⟩) cn cn, .slice (some ⟨gD, 0, none⟩) dn dn, .int .i64 p]) ∧ DeskIn w' (some ⟨gA, 0, none⟩) xs (some ⟨gB, 0, none⟩) bs (some ⟨gG, 0, none⟩) ws (some ⟨gC, 0, none⟩) ys (some ⟨gD, 0, none⟩) ds ∧ rowNums ws = rowNums rs ∧ ws.length = gn ∧ Below w.heap.size w w'

set_option maxHeartbeats 3200000 in
set_option maxRecDepth 100000 in
set_option linter.unusedVariables false in
set_option linter.unusedSimpArgs false in
theorem toDesk_own (A : Option Addr) (n c : Nat) (s : Int) (B : Option Addr) (m d : Nat) (t : Bool) (k : Int) (G : Option Addr) (gn gc : Nat) (rs : List RowV) (q : Int) (C : Option Addr) (cn cc : Nat) (D : Option Addr) (dn dc : Nat) (p : Int) (xs : List Int) (bs : List Bool) (ys : List Int) (ds : List Bool) (w : World) (hin : DeskIn w A xs B bs G rs C ys D ds) (hx : xs.length = n) (hy : bs.length = m) (hz : rs.length = gn) (hv : ys.length = cn) (hu : ds.length = dn) (hn : n ≤ 1048576) (hm : m ≤ 1048576) (hT : total rs ≤ 1048576) (hcn : cn ≤ 1048576) (hdn : dn ≤ 1048576) :
    Calls Try.prog 17 #[.agg #[.slice A n c, .int .i64 s, .slice B m d, .bool t, .int .i64 k, .slice G gn gc, .int .i64 q, .slice C cn cc, .slice D dn dc, .int .i64 p]] w (DeskTo xs n s bs m t k rs gn q ys cn ds dn p w) := by
  have HIN := Lib.hid hin
  have HX := Lib.hid hx
  have HY := Lib.hid hy
  have HZ := Lib.hid hz
  have HV := Lib.hid hv
  have HU := Lib.hid hu
  have hq := ((Whole.fresh w 34 #[.slice A n c, .int .i64 s, .slice B m d, .bool t, .int .i64 k, .slice G gn gc, .int .i64 q, .slice C cn cc, .slice D dn dc, .int .i64 p]).alloc (.cells #[.slice none 0 0, .int .i64 0, .slice none 0 0, .bool false, .int .i64 0, .slice none 0 0, .int .i64 0, .slice none 0 0, .slice none 0 0, .int .i64 0] 42)).alloc (.cells #[.slice none 0 0, .int .i64 0, .slice none 0 0, .bool false, .int .i64 0, .slice none 0 0, .int .i64 0, .slice none 0 0, .slice none 0 0, .int .i64 0] 42)
  have hy0 := (Whole.fresh (w.alloc (.cells #[.slice A n c, .int .i64 s, .slice B m d, .bool t, .int .i64 k, .slice G gn gc, .int .i64 q, .slice C cn cc, .slice D dn dc, .int .i64 p] 34)) 42 #[.slice none 0 0, .int .i64 0, .slice none 0 0, .bool false, .int .i64 0, .slice none 0 0, .int .i64 0, .slice none 0 0, .slice none 0 0, .int .i64 0]).alloc (.cells #[.slice none 0 0, .int .i64 0, .slice none 0 0, .bool false, .int .i64 0, .slice none 0 0, .int .i64 0, .slice none 0 0, .slice none 0 0, .int .i64 0] 42)
  have hr := Whole.fresh ((w.alloc (.cells #[.slice A n c, .int .i64 s, .slice B m d, .bool t, .int .i64 k, .slice G gn gc, .int .i64 q, .slice C cn cc, .slice D dn dc, .int .i64 p] 34)).alloc (.cells #[.slice none 0 0, .int .i64 0, .slice none 0 0, .bool false, .int .i64 0, .slice none 0 0, .int .i64 0, .slice none 0 0, .slice none 0 0, .int .i64 0] 42)) 42 #[.slice none 0 0, .int .i64 0, .slice none 0 0, .bool false, .int .i64 0, .slice none 0 0, .int .i64 0, .slice none 0 0, .slice none 0 0, .int .i64 0]
  simp only [World.size_alloc] at hy0 hr
  have ht := below3 w (.cells #[.slice A n c, .int .i64 s, .slice B m d, .bool t, .int .i64 k, .slice G gn gc, .int .i64 q, .slice C cn cc, .slice D dn dc, .int .i64 p] 34) (.cells #[.slice none 0 0, .int .i64 0, .slice none 0 0, .bool false, .int .i64 0, .slice none 0 0, .int .i64 0, .slice none 0 0, .slice none 0 0, .int .i64 0] 42) (.cells #[.slice none 0 0, .int .i64 0, .slice none 0 0, .bool false, .int .i64 0, .slice none 0 0, .int .i64 0, .slice none 0 0, .slice none 0 0, .int .i64 0] 42)
  clear hin hx hy hz hv hu
  have k0 := hq.cell 0
  have k1 := hq.cell 1
  have k2 := hq.cell 2
  have k3 := hq.cell 3
  have k4 := hq.cell 4
  have k5 := hq.cell 5
  have k6 := hq.cell 6
  have k7 := hq.cell 7
  have k8 := hq.cell 8
  have k9 := hq.cell 9
  have kl := hq.lt
  go_enter Try.func17, Try.ntmps17
  go_wp2_with fail
  refine (toParty_own A n c xs s _ (HIN.out.below ht).a HX.out hn).mono ?_
  rintro e w1 ⟨gA, rfl, hgA, hwA, hb⟩
  have hsz0 := hr.lt
  have hlgA : w.heap.size + 1 + 1 < gA := by have h := hgA; (try simp at h); omega
  replace ht := below_then ht hb ht.size
  replace hq := hq.below hb
  replace hy0 := hy0.below hb
  replace hr := hr.below hb
  clear hb hsz0 k0 k1 k2 k3 k4 k5 k6 k7 k8 k9 kl
  have rl := hr.lt
  have r0 := hr.cell 0
  have f0 := hr.open_ 0
  have r1 := hr.cell 1
  have f1 := hr.open_ 1
  go_upto_region 3 with fail
  clear rl r0 f0 r1 f1
  have hr_0 : Whole (World.setCell w1 ⟨w.heap.size + 1 + 1, 0, none⟩ (.slice (some ⟨gA, 0, none⟩) n n)) (w.heap.size + 1 + 1) 42 #[.slice (some ⟨gA, 0, none⟩) n n, .int .i64 0, .slice none 0 0, .bool false, .int .i64 0, .slice none 0 0, .int .i64 0, .slice none 0 0, .slice none 0 0, .int .i64 0] := hr.set_ 0 _
  have hr_1 : Whole (World.setCell (World.setCell w1 ⟨w.heap.size + 1 + 1, 0, none⟩ (.slice (some ⟨gA, 0, none⟩) n n)) ⟨w.heap.size + 1 + 1, 1, none⟩ (.int .i64 s)) (w.heap.size + 1 + 1) 42 #[.slice (some ⟨gA, 0, none⟩) n n, .int .i64 s, .slice none 0 0, .bool false, .int .i64 0, .slice none 0 0, .int .i64 0, .slice none 0 0, .slice none 0 0, .int .i64 0] := hr_0.set_ 1 _
  replace hr := hr_1
  clear hr_0 hr_1
  replace hq := hq.off (b := w.heap.size + 1 + 1) (o := 0) (u := (.slice (some ⟨gA, 0, none⟩) n n)) (by omega)
  replace hy0 := hy0.off (b := w.heap.size + 1 + 1) (o := 0) (u := (.slice (some ⟨gA, 0, none⟩) n n)) (by omega)
  replace hwA := hwA.off (b := w.heap.size + 1 + 1) (o := 0) (u := (.slice (some ⟨gA, 0, none⟩) n n)) (by omega)
  replace ht := below_set (b := w.heap.size + 1 + 1) (o := 0) (u := (.slice (some ⟨gA, 0, none⟩) n n)) ht (by omega)
  replace hq := hq.off (b := w.heap.size + 1 + 1) (o := 1) (u := (.int .i64 s)) (by omega)
  replace hy0 := hy0.off (b := w.heap.size + 1 + 1) (o := 1) (u := (.int .i64 s)) (by omega)
  replace hwA := hwA.off (b := w.heap.size + 1 + 1) (o := 1) (u := (.int .i64 s)) (by omega)
  replace ht := below_set (b := w.heap.size + 1 + 1) (o := 1) (u := (.int .i64 s)) ht (by omega)
  generalize (World.setCell (World.setCell w1 ⟨w.heap.size + 1 + 1, 0, none⟩ (.slice (some ⟨gA, 0, none⟩) n n)) ⟨w.heap.size + 1 + 1, 1, none⟩ (.int .i64 s)) = v1 at hr hq hy0 ht hwA ⊢
  have k0 := hq.cell 0
  have k1 := hq.cell 1
  have k2 := hq.cell 2
  have k3 := hq.cell 3
  have k4 := hq.cell 4
  have k5 := hq.cell 5
  have k6 := hq.cell 6
  have k7 := hq.cell 7
  have k8 := hq.cell 8
  have k9 := hq.cell 9
  have kl := hq.lt
  go_wp2_with fail
  refine (toState_own B m d bs t _ (HIN.out.below ht).b HY.out hm).mono ?_
  rintro e w2 ⟨gB, rfl, hgB, hwB, hb⟩
  have hsz1 := hr.lt
  have hlgB : w.heap.size + 1 + 1 < gB := by have h := hgB; (try simp at h); omega
  replace ht := below_then ht hb ht.size
  replace hq := hq.below hb
  replace hy0 := hy0.below hb
  replace hr := hr.below hb
  replace hwA := hwA.below hb
  clear hb hsz1 k0 k1 k2 k3 k4 k5 k6 k7 k8 k9 kl
  have rl := hr.lt
  have r2 := hr.cell 2
  have f2 := hr.open_ 2
  have r3 := hr.cell 3
  have f3 := hr.open_ 3
  go_upto_region 4 with fail
  clear rl r2 f2 r3 f3
  have hr_2 : Whole (World.setCell w2 ⟨w.heap.size + 1 + 1, 2, none⟩ (.slice (some ⟨gB, 0, none⟩) m m)) (w.heap.size + 1 + 1) 42 #[.slice (some ⟨gA, 0, none⟩) n n, .int .i64 s, .slice (some ⟨gB, 0, none⟩) m m, .bool false, .int .i64 0, .slice none 0 0, .int .i64 0, .slice none 0 0, .slice none 0 0, .int .i64 0] := hr.set_ 2 _
  have hr_3 : Whole (World.setCell (World.setCell w2 ⟨w.heap.size + 1 + 1, 2, none⟩ (.slice (some ⟨gB, 0, none⟩) m m)) ⟨w.heap.size + 1 + 1, 3, none⟩ (.bool t)) (w.heap.size + 1 + 1) 42 #[.slice (some ⟨gA, 0, none⟩) n n, .int .i64 s, .slice (some ⟨gB, 0, none⟩) m m, .bool t, .int .i64 0, .slice none 0 0, .int .i64 0, .slice none 0 0, .slice none 0 0, .int .i64 0] := hr_2.set_ 3 _
  replace hr := hr_3
  clear hr_2 hr_3
  replace hq := hq.off (b := w.heap.size + 1 + 1) (o := 2) (u := (.slice (some ⟨gB, 0, none⟩) m m)) (by omega)
  replace hy0 := hy0.off (b := w.heap.size + 1 + 1) (o := 2) (u := (.slice (some ⟨gB, 0, none⟩) m m)) (by omega)
  replace hwA := hwA.off (b := w.heap.size + 1 + 1) (o := 2) (u := (.slice (some ⟨gB, 0, none⟩) m m)) (by omega)
  replace hwB := hwB.off (b := w.heap.size + 1 + 1) (o := 2) (u := (.slice (some ⟨gB, 0, none⟩) m m)) (by omega)
  replace ht := below_set (b := w.heap.size + 1 + 1) (o := 2) (u := (.slice (some ⟨gB, 0, none⟩) m m)) ht (by omega)
  replace hq := hq.off (b := w.heap.size + 1 + 1) (o := 3) (u := (.bool t)) (by omega)
  replace hy0 := hy0.off (b := w.heap.size + 1 + 1) (o := 3) (u := (.bool t)) (by omega)
  replace hwA := hwA.off (b := w.heap.size + 1 + 1) (o := 3) (u := (.bool t)) (by omega)
  replace hwB := hwB.off (b := w.heap.size + 1 + 1) (o := 3) (u := (.bool t)) (by omega)
  replace ht := below_set (b := w.heap.size + 1 + 1) (o := 3) (u := (.bool t)) ht (by omega)
  generalize (World.setCell (World.setCell w2 ⟨w.heap.size + 1 + 1, 2, none⟩ (.slice (some ⟨gB, 0, none⟩) m m)) ⟨w.heap.size + 1 + 1, 3, none⟩ (.bool t)) = v2 at hr hq hy0 ht hwA hwB ⊢
  have k0 := hq.cell 0
  have k1 := hq.cell 1
  have k2 := hq.cell 2
  have k3 := hq.cell 3
  have k4 := hq.cell 4
  have k5 := hq.cell 5
  have k6 := hq.cell 6
  have k7 := hq.cell 7
  have k8 := hq.cell 8
  have k9 := hq.cell 9
  have kl := hq.lt
  go_wp2_with fail
  refine (toKeep_own k G gn gc rs q _ (HIN.out.below ht).g HZ.out hT).mono ?_
  rintro e w3 ⟨gG, ws, rfl, hgG, hwG, heG, hlG, hb⟩
  have hsz2 := hr.lt
  have hlgG : w.heap.size + 1 + 1 < gG := by have h := hgG; (try simp at h); omega
  obtain ⟨hi, hhi⟩ : ∃ h, h = w3.heap.size := ⟨_, rfl⟩
  rw [← hhi] at hwG
  have HEG := Lib.hid heG
  have HLG := Lib.hid hlG
  clear heG hlG hhi
  replace ht := below_then ht hb ht.size
  replace hq := hq.below hb
  replace hy0 := hy0.below hb
  replace hr := hr.below hb
  replace hwA := hwA.below hb
  replace hwB := hwB.below hb
  clear hb hsz2 k0 k1 k2 k3 k4 k5 k6 k7 k8 k9 kl
  have rl := hr.lt
  have r4 := hr.cell 4
  have f4 := hr.open_ 4
  have r5 := hr.cell 5
  have f5 := hr.open_ 5
  have r6 := hr.cell 6
  have f6 := hr.open_ 6
  go_upto_region 5 with fail
  clear rl r4 f4 r5 f5 r6 f6
  have hr_4 : Whole (World.setCell w3 ⟨w.heap.size + 1 + 1, 4, none⟩ (.int .i64 k)) (w.heap.size + 1 + 1) 42 #[.slice (some ⟨gA, 0, none⟩) n n, .int .i64 s, .slice (some ⟨gB, 0, none⟩) m m, .bool t, .int .i64 k, .slice none 0 0, .int .i64 0, .slice none 0 0, .slice none 0 0, .int .i64 0] := hr.set_ 4 _
  have hr_5 : Whole (World.setCell (World.setCell w3 ⟨w.heap.size + 1 + 1, 4, none⟩ (.int .i64 k)) ⟨w.heap.size + 1 + 1, 5, none⟩ (.slice (some ⟨gG, 0, none⟩) gn gn)) (w.heap.size + 1 + 1) 42 #[.slice (some ⟨gA, 0, none⟩) n n, .int .i64 s, .slice (some ⟨gB, 0, none⟩) m m, .bool t, .int .i64 k, .slice (some ⟨gG, 0, none⟩) gn gn, .int .i64 0, .slice none 0 0, .slice none 0 0, .int .i64 0] := hr_4.set_ 5 _
  have hr_6 : Whole (World.setCell (World.setCell (World.setCell w3 ⟨w.heap.size + 1 + 1, 4, none⟩ (.int .i64 k)) ⟨w.heap.size + 1 + 1, 5, none⟩ (.slice (some ⟨gG, 0, none⟩) gn gn)) ⟨w.heap.size + 1 + 1, 6, none⟩ (.int .i64 q)) (w.heap.size + 1 + 1) 42 #[.slice (some ⟨gA, 0, none⟩) n n, .int .i64 s, .slice (some ⟨gB, 0, none⟩) m m, .bool t, .int .i64 k, .slice (some ⟨gG, 0, none⟩) gn gn, .int .i64 q, .slice none 0 0, .slice none 0 0, .int .i64 0] := hr_5.set_ 6 _
  replace hr := hr_6
  clear hr_4 hr_5 hr_6
  replace hq := hq.off (b := w.heap.size + 1 + 1) (o := 4) (u := (.int .i64 k)) (by omega)
  replace hy0 := hy0.off (b := w.heap.size + 1 + 1) (o := 4) (u := (.int .i64 k)) (by omega)
  replace hwA := hwA.off (b := w.heap.size + 1 + 1) (o := 4) (u := (.int .i64 k)) (by omega)
  replace hwB := hwB.off (b := w.heap.size + 1 + 1) (o := 4) (u := (.int .i64 k)) (by omega)
  replace hwG := hwG.set_out (b := w.heap.size + 1 + 1) (o := 4) (u := (.int .i64 k)) (by omega)
  replace ht := below_set (b := w.heap.size + 1 + 1) (o := 4) (u := (.int .i64 k)) ht (by omega)
  replace hq := hq.off (b := w.heap.size + 1 + 1) (o := 5) (u := (.slice (some ⟨gG, 0, none⟩) gn gn)) (by omega)
  replace hy0 := hy0.off (b := w.heap.size + 1 + 1) (o := 5) (u := (.slice (some ⟨gG, 0, none⟩) gn gn)) (by omega)
  replace hwA := hwA.off (b := w.heap.size + 1 + 1) (o := 5) (u := (.slice (some ⟨gG, 0, none⟩) gn gn)) (by omega)
  replace hwB := hwB.off (b := w.heap.size + 1 + 1) (o := 5) (u := (.slice (some ⟨gG, 0, none⟩) gn gn)) (by omega)
  replace hwG := hwG.set_out (b := w.heap.size + 1 + 1) (o := 5) (u := (.slice (some ⟨gG, 0, none⟩) gn gn)) (by omega)
  replace ht := below_set (b := w.heap.size + 1 + 1) (o := 5) (u := (.slice (some ⟨gG, 0, none⟩) gn gn)) ht (by omega)
  replace hq := hq.off (b := w.heap.size + 1 + 1) (o := 6) (u := (.int .i64 q)) (by omega)
  replace hy0 := hy0.off (b := w.heap.size + 1 + 1) (o := 6) (u := (.int .i64 q)) (by omega)
  replace hwA := hwA.off (b := w.heap.size + 1 + 1) (o := 6) (u := (.int .i64 q)) (by omega)
  replace hwB := hwB.off (b := w.heap.size + 1 + 1) (o := 6) (u := (.int .i64 q)) (by omega)
  replace hwG := hwG.set_out (b := w.heap.size + 1 + 1) (o := 6) (u := (.int .i64 q)) (by omega)
  replace ht := below_set (b := w.heap.size + 1 + 1) (o := 6) (u := (.int .i64 q)) ht (by omega)
  generalize (World.setCell (World.setCell (World.setCell w3 ⟨w.heap.size + 1 + 1, 4, none⟩ (.int .i64 k)) ⟨w.heap.size + 1 + 1, 5, none⟩ (.slice (some ⟨gG, 0, none⟩) gn gn)) ⟨w.heap.size + 1 + 1, 6, none⟩ (.int .i64 q)) = v3 at hr hq hy0 ht hwA hwB hwG ⊢
  have k0 := hq.cell 0
  have k1 := hq.cell 1
  have k2 := hq.cell 2
  have k3 := hq.cell 3
  have k4 := hq.cell 4
  have k5 := hq.cell 5
  have k6 := hq.cell 6
  have k7 := hq.cell 7
  have k8 := hq.cell 8
  have k9 := hq.cell 9
  have kl := hq.lt
  go_wp2_with fail
  refine (toCrew_own C cn cc ys D dn dc ds p _ (HIN.out.below ht).c (HIN.out.below ht).d HV.out HU.out hcn hdn).mono ?_
  rintro e w4 ⟨gC, gD, rfl, hgC, hwC, hgD, hwD, hb⟩
  have hsz3 := hr.lt
  have hlgC : w.heap.size + 1 + 1 < gC := by have h := hgC; (try simp at h); omega
  have hlgD : w.heap.size + 1 + 1 < gD := by omega
  replace ht := below_then ht hb ht.size
  replace hq := hq.below hb
  replace hy0 := hy0.below hb
  replace hr := hr.below hb
  replace hwA := hwA.below hb
  replace hwB := hwB.below hb
  replace hwG := hwG.below hb
  clear hb hsz3 k0 k1 k2 k3 k4 k5 k6 k7 k8 k9 kl
  have rl := hr.lt
  have r7 := hr.cell 7
  have f7 := hr.open_ 7
  have r8 := hr.cell 8
  have f8 := hr.open_ 8
  have r9 := hr.cell 9
  have f9 := hr.open_ 9
  go_upto_region 6 with fail
  clear rl r7 f7 r8 f8 r9 f9
  have hr_7 : Whole (World.setCell w4 ⟨w.heap.size + 1 + 1, 7, none⟩ (.slice (some ⟨gC, 0, none⟩) cn cn)) (w.heap.size + 1 + 1) 42 #[.slice (some ⟨gA, 0, none⟩) n n, .int .i64 s, .slice (some ⟨gB, 0, none⟩) m m, .bool t, .int .i64 k, .slice (some ⟨gG, 0, none⟩) gn gn, .int .i64 q, .slice (some ⟨gC, 0, none⟩) cn cn, .slice none 0 0, .int .i64 0] := hr.set_ 7 _
  have hr_8 : Whole (World.setCell (World.setCell w4 ⟨w.heap.size + 1 + 1, 7, none⟩ (.slice (some ⟨gC, 0, none⟩) cn cn)) ⟨w.heap.size + 1 + 1, 8, none⟩ (.slice (some ⟨gD, 0, none⟩) dn dn)) (w.heap.size + 1 + 1) 42 #[.slice (some ⟨gA, 0, none⟩) n n, .int .i64 s, .slice (some ⟨gB, 0, none⟩) m m, .bool t, .int .i64 k, .slice (some ⟨gG, 0, none⟩) gn gn, .int .i64 q, .slice (some ⟨gC, 0, none⟩) cn cn, .slice (some ⟨gD, 0, none⟩) dn dn, .int .i64 0] := hr_7.set_ 8 _
  have hr_9 : Whole (World.setCell (World.setCell (World.setCell w4 ⟨w.heap.size + 1 + 1, 7, none⟩ (.slice (some ⟨gC, 0, none⟩) cn cn)) ⟨w.heap.size + 1 + 1, 8, none⟩ (.slice (some ⟨gD, 0, none⟩) dn dn)) ⟨w.heap.size + 1 + 1, 9, none⟩ (.int .i64 p)) (w.heap.size + 1 + 1) 42 #[.slice (some ⟨gA, 0, none⟩) n n, .int .i64 s, .slice (some ⟨gB, 0, none⟩) m m, .bool t, .int .i64 k, .slice (some ⟨gG, 0, none⟩) gn gn, .int .i64 q, .slice (some ⟨gC, 0, none⟩) cn cn, .slice (some ⟨gD, 0, none⟩) dn dn, .int .i64 p] := hr_8.set_ 9 _
  replace hr := hr_9
  clear hr_7 hr_8 hr_9
  replace hq := hq.off (b := w.heap.size + 1 + 1) (o := 7) (u := (.slice (some ⟨gC, 0, none⟩) cn cn)) (by omega)
  replace hy0 := hy0.off (b := w.heap.size + 1 + 1) (o := 7) (u := (.slice (some ⟨gC, 0, none⟩) cn cn)) (by omega)
  replace hwA := hwA.off (b := w.heap.size + 1 + 1) (o := 7) (u := (.slice (some ⟨gC, 0, none⟩) cn cn)) (by omega)
  replace hwB := hwB.off (b := w.heap.size + 1 + 1) (o := 7) (u := (.slice (some ⟨gC, 0, none⟩) cn cn)) (by omega)
  replace hwC := hwC.off (b := w.heap.size + 1 + 1) (o := 7) (u := (.slice (some ⟨gC, 0, none⟩) cn cn)) (by omega)
  replace hwD := hwD.off (b := w.heap.size + 1 + 1) (o := 7) (u := (.slice (some ⟨gC, 0, none⟩) cn cn)) (by omega)
  replace hwG := hwG.set_out (b := w.heap.size + 1 + 1) (o := 7) (u := (.slice (some ⟨gC, 0, none⟩) cn cn)) (by omega)
  replace ht := below_set (b := w.heap.size + 1 + 1) (o := 7) (u := (.slice (some ⟨gC, 0, none⟩) cn cn)) ht (by omega)
  replace hq := hq.off (b := w.heap.size + 1 + 1) (o := 8) (u := (.slice (some ⟨gD, 0, none⟩) dn dn)) (by omega)
  replace hy0 := hy0.off (b := w.heap.size + 1 + 1) (o := 8) (u := (.slice (some ⟨gD, 0, none⟩) dn dn)) (by omega)
  replace hwA := hwA.off (b := w.heap.size + 1 + 1) (o := 8) (u := (.slice (some ⟨gD, 0, none⟩) dn dn)) (by omega)
  replace hwB := hwB.off (b := w.heap.size + 1 + 1) (o := 8) (u := (.slice (some ⟨gD, 0, none⟩) dn dn)) (by omega)
  replace hwC := hwC.off (b := w.heap.size + 1 + 1) (o := 8) (u := (.slice (some ⟨gD, 0, none⟩) dn dn)) (by omega)
  replace hwD := hwD.off (b := w.heap.size + 1 + 1) (o := 8) (u := (.slice (some ⟨gD, 0, none⟩) dn dn)) (by omega)
  replace hwG := hwG.set_out (b := w.heap.size + 1 + 1) (o := 8) (u := (.slice (some ⟨gD, 0, none⟩) dn dn)) (by omega)
  replace ht := below_set (b := w.heap.size + 1 + 1) (o := 8) (u := (.slice (some ⟨gD, 0, none⟩) dn dn)) ht (by omega)
  replace hq := hq.off (b := w.heap.size + 1 + 1) (o := 9) (u := (.int .i64 p)) (by omega)
  replace hy0 := hy0.off (b := w.heap.size + 1 + 1) (o := 9) (u := (.int .i64 p)) (by omega)
  replace hwA := hwA.off (b := w.heap.size + 1 + 1) (o := 9) (u := (.int .i64 p)) (by omega)
  replace hwB := hwB.off (b := w.heap.size + 1 + 1) (o := 9) (u := (.int .i64 p)) (by omega)
  replace hwC := hwC.off (b := w.heap.size + 1 + 1) (o := 9) (u := (.int .i64 p)) (by omega)
  replace hwD := hwD.off (b := w.heap.size + 1 + 1) (o := 9) (u := (.int .i64 p)) (by omega)
  replace hwG := hwG.set_out (b := w.heap.size + 1 + 1) (o := 9) (u := (.int .i64 p)) (by omega)
  replace ht := below_set (b := w.heap.size + 1 + 1) (o := 9) (u := (.int .i64 p)) ht (by omega)
  generalize (World.setCell (World.setCell (World.setCell w4 ⟨w.heap.size + 1 + 1, 7, none⟩ (.slice (some ⟨gC, 0, none⟩) cn cn)) ⟨w.heap.size + 1 + 1, 8, none⟩ (.slice (some ⟨gD, 0, none⟩) dn dn)) ⟨w.heap.size + 1 + 1, 9, none⟩ (.int .i64 p)) = v4 at hr hq hy0 ht hwA hwB hwG hwC hwD ⊢
  have k0 := hq.cell 0
  have k1 := hq.cell 1
  have k2 := hq.cell 2
  have k3 := hq.cell 3
  have k4 := hq.cell 4
  have k5 := hq.cell 5
  have k6 := hq.cell 6
  have k7 := hq.cell 7
  have k8 := hq.cell 8
  have k9 := hq.cell 9
  have kl := hq.lt
  clear k0 k1 k2 k3 k4 k5 k6 k7 k8 k9 kl
  have r0 := hr.cell 0
  have r1 := hr.cell 1
  have r2 := hr.cell 2
  have r3 := hr.cell 3
  have r4 := hr.cell 4
  have r5 := hr.cell 5
  have r6 := hr.cell 6
  have r7 := hr.cell 7
  have r8 := hr.cell 8
  have r9 := hr.cell 9
  have rl := hr.lt
  have y0 := hy0.cell 0
  have e0 := hy0.open_ 0
  have y1 := hy0.cell 1
  have e1 := hy0.open_ 1
  have y2 := hy0.cell 2
  have e2 := hy0.open_ 2
  have y3 := hy0.cell 3
  have e3 := hy0.open_ 3
  have y4 := hy0.cell 4
  have e4 := hy0.open_ 4
  have y5 := hy0.cell 5
  have e5 := hy0.open_ 5
  have y6 := hy0.cell 6
  have e6 := hy0.open_ 6
  have y7 := hy0.cell 7
  have e7 := hy0.open_ 7
  have y8 := hy0.cell 8
  have e8 := hy0.open_ 8
  have y9 := hy0.cell 9
  have e9 := hy0.open_ 9
  have yl := hy0.lt
  replace hwA := hwA.off (b := w.heap.size + 1) (o := 0) (u := (.slice (some ⟨gA, 0, none⟩) n n)) (by omega)
  replace hwB := hwB.off (b := w.heap.size + 1) (o := 0) (u := (.slice (some ⟨gA, 0, none⟩) n n)) (by omega)
  replace hwG := hwG.set_out (b := w.heap.size + 1) (o := 0) (u := (.slice (some ⟨gA, 0, none⟩) n n)) (by omega)
  replace hwC := hwC.off (b := w.heap.size + 1) (o := 0) (u := (.slice (some ⟨gA, 0, none⟩) n n)) (by omega)
  replace hwD := hwD.off (b := w.heap.size + 1) (o := 0) (u := (.slice (some ⟨gA, 0, none⟩) n n)) (by omega)
  replace ht := below_set (b := w.heap.size + 1) (o := 0) (u := (.slice (some ⟨gA, 0, none⟩) n n)) ht (by omega)
  replace hwA := hwA.off (b := w.heap.size + 1) (o := 1) (u := (.int .i64 s)) (by omega)
  replace hwB := hwB.off (b := w.heap.size + 1) (o := 1) (u := (.int .i64 s)) (by omega)
  replace hwG := hwG.set_out (b := w.heap.size + 1) (o := 1) (u := (.int .i64 s)) (by omega)
  replace hwC := hwC.off (b := w.heap.size + 1) (o := 1) (u := (.int .i64 s)) (by omega)
  replace hwD := hwD.off (b := w.heap.size + 1) (o := 1) (u := (.int .i64 s)) (by omega)
  replace ht := below_set (b := w.heap.size + 1) (o := 1) (u := (.int .i64 s)) ht (by omega)
  replace hwA := hwA.off (b := w.heap.size + 1) (o := 2) (u := (.slice (some ⟨gB, 0, none⟩) m m)) (by omega)
  replace hwB := hwB.off (b := w.heap.size + 1) (o := 2) (u := (.slice (some ⟨gB, 0, none⟩) m m)) (by omega)
  replace hwG := hwG.set_out (b := w.heap.size + 1) (o := 2) (u := (.slice (some ⟨gB, 0, none⟩) m m)) (by omega)
  replace hwC := hwC.off (b := w.heap.size + 1) (o := 2) (u := (.slice (some ⟨gB, 0, none⟩) m m)) (by omega)
  replace hwD := hwD.off (b := w.heap.size + 1) (o := 2) (u := (.slice (some ⟨gB, 0, none⟩) m m)) (by omega)
  replace ht := below_set (b := w.heap.size + 1) (o := 2) (u := (.slice (some ⟨gB, 0, none⟩) m m)) ht (by omega)
  replace hwA := hwA.off (b := w.heap.size + 1) (o := 3) (u := (.bool t)) (by omega)
  replace hwB := hwB.off (b := w.heap.size + 1) (o := 3) (u := (.bool t)) (by omega)
  replace hwG := hwG.set_out (b := w.heap.size + 1) (o := 3) (u := (.bool t)) (by omega)
  replace hwC := hwC.off (b := w.heap.size + 1) (o := 3) (u := (.bool t)) (by omega)
  replace hwD := hwD.off (b := w.heap.size + 1) (o := 3) (u := (.bool t)) (by omega)
  replace ht := below_set (b := w.heap.size + 1) (o := 3) (u := (.bool t)) ht (by omega)
  replace hwA := hwA.off (b := w.heap.size + 1) (o := 4) (u := (.int .i64 k)) (by omega)
  replace hwB := hwB.off (b := w.heap.size + 1) (o := 4) (u := (.int .i64 k)) (by omega)
  replace hwG := hwG.set_out (b := w.heap.size + 1) (o := 4) (u := (.int .i64 k)) (by omega)
  replace hwC := hwC.off (b := w.heap.size + 1) (o := 4) (u := (.int .i64 k)) (by omega)
  replace hwD := hwD.off (b := w.heap.size + 1) (o := 4) (u := (.int .i64 k)) (by omega)
  replace ht := below_set (b := w.heap.size + 1) (o := 4) (u := (.int .i64 k)) ht (by omega)
  replace hwA := hwA.off (b := w.heap.size + 1) (o := 5) (u := (.slice (some ⟨gG, 0, none⟩) gn gn)) (by omega)
  replace hwB := hwB.off (b := w.heap.size + 1) (o := 5) (u := (.slice (some ⟨gG, 0, none⟩) gn gn)) (by omega)
  replace hwG := hwG.set_out (b := w.heap.size + 1) (o := 5) (u := (.slice (some ⟨gG, 0, none⟩) gn gn)) (by omega)
  replace hwC := hwC.off (b := w.heap.size + 1) (o := 5) (u := (.slice (some ⟨gG, 0, none⟩) gn gn)) (by omega)
  replace hwD := hwD.off (b := w.heap.size + 1) (o := 5) (u := (.slice (some ⟨gG, 0, none⟩) gn gn)) (by omega)
  replace ht := below_set (b := w.heap.size + 1) (o := 5) (u := (.slice (some ⟨gG, 0, none⟩) gn gn)) ht (by omega)
  replace hwA := hwA.off (b := w.heap.size + 1) (o := 6) (u := (.int .i64 q)) (by omega)
  replace hwB := hwB.off (b := w.heap.size + 1) (o := 6) (u := (.int .i64 q)) (by omega)
  replace hwG := hwG.set_out (b := w.heap.size + 1) (o := 6) (u := (.int .i64 q)) (by omega)
  replace hwC := hwC.off (b := w.heap.size + 1) (o := 6) (u := (.int .i64 q)) (by omega)
  replace hwD := hwD.off (b := w.heap.size + 1) (o := 6) (u := (.int .i64 q)) (by omega)
  replace ht := below_set (b := w.heap.size + 1) (o := 6) (u := (.int .i64 q)) ht (by omega)
  replace hwA := hwA.off (b := w.heap.size + 1) (o := 7) (u := (.slice (some ⟨gC, 0, none⟩) cn cn)) (by omega)
  replace hwB := hwB.off (b := w.heap.size + 1) (o := 7) (u := (.slice (some ⟨gC, 0, none⟩) cn cn)) (by omega)
  replace hwG := hwG.set_out (b := w.heap.size + 1) (o := 7) (u := (.slice (some ⟨gC, 0, none⟩) cn cn)) (by omega)
  replace hwC := hwC.off (b := w.heap.size + 1) (o := 7) (u := (.slice (some ⟨gC, 0, none⟩) cn cn)) (by omega)
  replace hwD := hwD.off (b := w.heap.size + 1) (o := 7) (u := (.slice (some ⟨gC, 0, none⟩) cn cn)) (by omega)
  replace ht := below_set (b := w.heap.size + 1) (o := 7) (u := (.slice (some ⟨gC, 0, none⟩) cn cn)) ht (by omega)
  replace hwA := hwA.off (b := w.heap.size + 1) (o := 8) (u := (.slice (some ⟨gD, 0, none⟩) dn dn)) (by omega)
  replace hwB := hwB.off (b := w.heap.size + 1) (o := 8) (u := (.slice (some ⟨gD, 0, none⟩) dn dn)) (by omega)
  replace hwG := hwG.set_out (b := w.heap.size + 1) (o := 8) (u := (.slice (some ⟨gD, 0, none⟩) dn dn)) (by omega)
  replace hwC := hwC.off (b := w.heap.size + 1) (o := 8) (u := (.slice (some ⟨gD, 0, none⟩) dn dn)) (by omega)
  replace hwD := hwD.off (b := w.heap.size + 1) (o := 8) (u := (.slice (some ⟨gD, 0, none⟩) dn dn)) (by omega)
  replace ht := below_set (b := w.heap.size + 1) (o := 8) (u := (.slice (some ⟨gD, 0, none⟩) dn dn)) ht (by omega)
  replace hwA := hwA.off (b := w.heap.size + 1) (o := 9) (u := (.int .i64 p)) (by omega)
  replace hwB := hwB.off (b := w.heap.size + 1) (o := 9) (u := (.int .i64 p)) (by omega)
  replace hwG := hwG.set_out (b := w.heap.size + 1) (o := 9) (u := (.int .i64 p)) (by omega)
  replace hwC := hwC.off (b := w.heap.size + 1) (o := 9) (u := (.int .i64 p)) (by omega)
  replace hwD := hwD.off (b := w.heap.size + 1) (o := 9) (u := (.int .i64 p)) (by omega)
  replace ht := below_set (b := w.heap.size + 1) (o := 9) (u := (.int .i64 p)) ht (by omega)
  have HDI := Lib.hid (DeskIn.mk (Fresh.of_whole (lo := 0) hwA (Nat.zero_le _) hwA.lt).holds (Fresh.of_whole (lo := 0) hwB (Nat.zero_le _) hwB.lt).holds hwG.grid (Fresh.of_whole (lo := 0) hwC (Nat.zero_le _) hwC.lt).holds (Fresh.of_whole (lo := 0) hwD (Nat.zero_le _) hwD.lt).holds)
  have HTT := Lib.hid ht
  clear hwA hwB hwG hwC hwD ht hq hy0 hr
  go_wp2
  refine bodyPost_ret (v := .agg #[.slice (some ⟨gA, 0, none⟩) n n, .int .i64 s, .slice (some ⟨gB, 0, none⟩) m m, .bool t, .int .i64 k, .slice (some ⟨gG, 0, none⟩) gn gn, .int .i64 q, .slice (some ⟨gC, 0, none⟩) cn cn, .slice (some ⟨gD, 0, none⟩) dn dn, .int .i64 p]) (by simp [results, Try.results17, go_sem, r0, r1, r2, r3, r4, r5, r6, r7, r8, r9, y0, y1, y2, y3, y4, y5, y6, y7, y8, y9]) rfl ⟨gA, gB, gG, gC, gD, ws, rfl, HDI.out, HEG.out, HLG.out, HTT.out⟩
end Go.Proofs.Ytkocompjjogciaa
