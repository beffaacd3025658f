/-
  What is proved: contracts of the laws' own helpers for lists of lists of numbers: their size, their copy, their comparison. Conditions: the given lists are read as they lie; a copy is of at most 1,048,576 numbers.
  What is proved: contracts of the laws' copy and comparison of lists of lists of numbers. Conditions: the given lists are read as they lie; a copy is of at most 1,048,576 numbers.
  What is proved: lists of lists of the call's own, and contracts of the laws' marks on them. Conditions: the rows are new, open to writes and apart from each other; counts are small.
  What is proved: the contract of a trip made by the model. Conditions: the trip is one.
  What is proved: the contract of trips made one after the other by the model. Conditions: the arguments are read as they lie; there is somebody.
  What is proved: a list of lists that the call makes row by row. Conditions: each new row is the call's own, in a range of blocks that no other one meets.
  What is proved: plain facts on keeps: dangers, their order, the dangers in a bank. Conditions: none.
  What is proved: contracts of the model's test of a keep (keGood) and of keBefore. Conditions: the lists are read as they lie.
  What is proved: contracts of the program's test of a keep (IsKeep), of isDanger and of slices.Compare on lists of two. Conditions: the lists are read as they lie.
  What is proved: contracts of the first and the last bank of a keep, as the model and the program make them. Conditions: the keep's dangers are read as they lie.
  What is proved: contracts of the program's test of a place of a keep (leaves, slices.ContainsFunc with it, isSafePlace). Conditions: the dangers are read as they lie, and are dangers.
  What is proved: plain facts on lists of lists that a call hands back. Conditions: none.
  What is proved: contracts of the model's dangers in a bank (keAsked, keNow, IsSafe, DangersNow). Conditions: the arguments are read as they lie.
  What is proved: the numbers of states: the torch, then the people, as digits, and back. Conditions: as each says.
  What is proved: the contract of the model's state with a number. Conditions: at most eight people; a number below 1,048,576.
-/
import Derived.Deep.DeepCutAuto
import Derived.Deep.AppendLies
import Derived.Lib.Small
import Derived.BigQuiet
import Derived.Deep.RegionHeld3
import Derived.Test.YtkdjdnknhbmliaaJ1CountSafe
namespace Go.Proofs.Ytkdjdnknhbmliaa
open Go.RowKit

/-- One list among others: where it lies, its length, its room, its numbers. -/
structure RowV where
  A : Option Addr
  n : Nat
  c : Nat
  xs : List Int
def RowV.val (r : RowV) : Value := .slice r.A r.n r.c
def rowVals (rs : List RowV) : List Value := rs.map RowV.val
def rowNums (rs : List RowV) : List (List Int) := rs.map RowV.xs
theorem rowVals_len (rs : List RowV) : (rowVals rs).length = rs.length := by simp [rowVals]
theorem rowNums_len (rs : List RowV) : (rowNums rs).length = rs.length := by simp [rowNums]
def RowOk (w : World) (r : RowV) : Prop := Holds w r.A (nums r.xs) ∧ r.xs.length = r.n ∧ r.n ≤ 9223372036854775807
/-- From A on the world holds these lists. -/
def Grid (w : World) (A : Option Addr) (rs : List RowV) : Prop := Holds w A (rowVals rs) ∧ ∀ r ∈ rs, RowOk w r
theorem RowOk.below {w w' : World} {r : RowV} (h : RowOk w r) (hb : Below w.heap.size w w') : RowOk w' r := ⟨h.1.below hb, h.2⟩
theorem Grid.below {w w' : World} {A : Option Addr} {rs : List RowV} (h : Grid w A rs) (hb : Below w.heap.size w w') : Grid w' A rs := ⟨h.1.below hb, fun r hr => (h.2 r hr).below hb⟩
theorem Grid.alloc {w : World} {A : Option Addr} {rs : List RowV} (h : Grid w A rs) (o : Obj) : Grid (w.alloc o) A rs := h.below (below1 w o)
theorem Grid.drew {w : World} {A : Option Addr} {rs : List RowV} (h : Grid w A rs) : Grid w.drew A rs := h
theorem Grid.look {w : World} {A : Option Addr} {rs : List RowV} (h : Grid w A rs) {k : Nat} (hk : k < rs.length) :
    ∃ b o, A = some ⟨b, o, none⟩ ∧ b < w.heap.size ∧ w.cell? ⟨b, o + k, none⟩ = some (.slice rs[k].A rs[k].n rs[k].c) ∧ RowOk w rs[k] := by
  obtain ⟨b, o, hA, hb, hc⟩ := h.1.look (k := k) (by rw [rowVals_len]; exact hk)
  refine ⟨b, o, hA, hb, ?_, h.2 _ (List.getElem_mem hk)⟩
  rw [hc]
  simp [rowVals, RowV.val]

/-- The lengths of the first k lists together. -/
def part (rs : List RowV) (k : Nat) : Nat := ((rs.take k).map RowV.n).sum
/-- The length and all lengths together. -/
def total (rs : List RowV) : Nat := rs.length + part rs rs.length
theorem part_zero (rs : List RowV) : part rs 0 = 0 := rfl
theorem part_next {rs : List RowV} {k : Nat} (hk : k < rs.length) : part rs (k + 1) = part rs k + rs[k].n := by
  rw [part, part, List.take_succ_eq_append_getElem hk, List.map_append, List.sum_append]
  simp
theorem part_le {rs : List RowV} : ∀ {k : Nat}, k ≤ rs.length → ∀ {j : Nat}, j ≤ k → part rs j ≤ part rs k
  | 0, _, j, hj => by obtain rfl : j = 0 := by omega
                      exact Nat.le_refl _
  | k + 1, hk, j, hj => by
    rcases Nat.lt_or_ge j (k + 1) with h | h
    · have h1 := part_le (rs := rs) (k := k) (by omega) (j := j) (by omega)
      have h2 := part_next (rs := rs) (k := k) (by omega)
      omega
    · obtain rfl : j = k + 1 := by omega
      exact Nat.le_refl _
theorem total_row {rs : List RowV} {k : Nat} (hk : k < rs.length) : rs[k].n ≤ total rs := by
  have h1 := part_next hk
  have h2 := part_le (rs := rs) (Nat.le_refl _) (j := k + 1) (by omega)
  unfold total
  omega
theorem total_len (rs : List RowV) : rs.length ≤ total rs := by unfold total; omega
def totalLeft (rs : List RowV) (l : Int) : Int := if l < (total rs : Int) then -1 else l - (total rs : Int)
theorem totalLeft_no {rs : List RowV} {l : Int} {k : Nat} (hk : k ≤ rs.length) (h : l < (rs.length : Int) + (part rs k : Int)) : totalLeft rs l = -1 := by
  have h2 := part_le (rs := rs) (Nat.le_refl _) (j := k) hk
  rw [totalLeft, if_pos (by unfold total; omega)]
theorem totalLeft_yes {rs : List RowV} {l : Int} (h : (rs.length : Int) + (part rs rs.length : Int) ≤ l) : totalLeft rs l = l - ((rs.length : Int) + (part rs rs.length : Int)) := by
  rw [totalLeft, if_neg (by unfold total; omega)]
  unfold total
  omega

set_option maxHeartbeats 800000 in
theorem szIntSS_any (A : Option Addr) (n c : Nat) (rs : List RowV) (l : Int) (w : World) (hA : Grid w A rs) (hx : rs.length = n) (hn : n ≤ 9223372036854775807) (h0 : 0 ≤ l) (h1 : l ≤ 1048576) :
    Calls Try.prog 30 #[.slice A n c, .int .i64 l] w fun e w' => e = .returned (.int .i64 (totalLeft rs l)) ∧ w = w' := by
  subst hx
  by_cases h : l < rs.length
  · have h' : l - rs.length < 0 := by omega
    have HN := Lib.hid (totalLeft_no (rs := rs) (k := 0) (l := l) (Nat.zero_le _) (by rw [part_zero]; omega))
    go_enter Try.func30, Try.ntmps30
    go_wp2
    go_ret
    exact ⟨ret_of (by rw [HN.out]; rfl), rfl⟩
  · have h' : ¬ l - rs.length < 0 := by omega
    go_enter Try.func30, Try.ntmps30
    go_wp2
    go_loop [1, 5] (fun v i => ∃ (k : Nat) (x : Int), k ≤ rs.length ∧ i = .int .i64 k ∧ v = .int .i64 x ∧ 0 ≤ x ∧ x ≤ 1048576 ∧ x + (rs.length : Int) + (part rs k : Int) = l) (fun _ i => rs.length - (intOf i).toNat)
    case atStart => exact ⟨0, _, Nat.zero_le _, rfl, rfl, by omega, by omega, by rw [part_zero]; omega⟩
    case round =>
      obtain ⟨k, x, hk, rfl, rfl, hx0, hx1, hl⟩ := hrel
      by_cases hlt : k < rs.length
      · obtain ⟨b, o, rfl, hb, hc, hok⟩ := hA.look hlt
        have hp := part_next hlt
        by_cases hs : x < rs[k].n
        · have HN := Lib.hid (totalLeft_no (rs := rs) (k := k + 1) (l := l) (by omega) (by omega))
          clear hl hp h h'
          go_wp2_with (go_at_call 78; refine (szIntS_any _ _ _ _ _ hok.2.2 hx0 hx1).mono ?_; rintro e w' ⟨rfl, rfl⟩; rw [if_pos hs])
          go_ret
          exact ⟨ret_of (by rw [HN.out]; rfl), rfl⟩
        · have hl2 : x - rs[k].n + (rs.length : Int) + (part rs (k + 1) : Int) = l := by omega
          have HL := Lib.hid hl2
          have hx2 : 0 ≤ x - (rs[k].n : Int) := by omega
          have hx3 : x - (rs[k].n : Int) ≤ 1048576 := by omega
          clear hl hp h h' hl2
          go_wp2_with (go_at_call 78; refine (szIntS_any _ _ _ _ _ hok.2.2 hx0 hx1).mono ?_; rintro e w' ⟨rfl, rfl⟩; rw [if_neg hs])
          go_round
          case rel => exact ⟨k + 1, _, by omega, by go_num, rfl, hx2, hx3, HL.out⟩
          case measure => simp [intOf]; omega
      · have hkn : k = rs.length := by omega
        subst hkn
        have HN := Lib.hid (totalLeft_yes (rs := rs) (l := l) (by omega))
        have HV := Lib.hid (show x = l - ((rs.length : Int) + (part rs rs.length : Int)) by omega)
        clear hl h h'
        go_wp2
        go_ret
        exact ⟨ret_of (by rw [HN.out, ← HV.out]; rfl), rfl⟩
end Go.Proofs.Ytkdjdnknhbmliaa

namespace Go.Proofs.Ytkdjdnknhbmliaa
open Go.RowKit

/-- Lists of the call's own, each in blocks behind those of the one before. -/
def OwnRows (w : World) : Nat → Nat → List RowV → Prop
  | lo, hi, [] => lo ≤ hi
  | lo, hi, r :: rs => ∃ mid, lo ≤ mid ∧ Fresh w lo mid 3 r.A (nums r.xs) ∧ r.xs.length = r.n ∧ r.n ≤ 1048576 ∧ OwnRows w mid hi rs
theorem OwnRows.le {w : World} : ∀ {rs : List RowV} {lo hi : Nat}, OwnRows w lo hi rs → lo ≤ hi
  | [], _, _, h => h
  | _ :: _, _, _, ⟨_, h1, _, _, _, h2⟩ => Nat.le_trans h1 h2.le
theorem OwnRows.more {w : World} : ∀ {rs : List RowV} {lo hi hi' : Nat}, OwnRows w lo hi rs → hi ≤ hi' → OwnRows w lo hi' rs
  | [], _, _, _, h, h' => Nat.le_trans h h'
  | _ :: _, _, _, _, ⟨m, h1, hf, hl, hn, h2⟩, h' => ⟨m, h1, hf, hl, hn, h2.more h'⟩
theorem OwnRows.below {w w' : World} (hb : Below w.heap.size w w') : ∀ {rs : List RowV} {lo hi : Nat}, OwnRows w lo hi rs → OwnRows w' lo hi rs
  | [], _, _, h => h
  | _ :: _, _, _, ⟨m, h1, hf, hl, hn, h2⟩ => ⟨m, h1, hf.below hb, hl, hn, h2.below hb⟩
theorem OwnRows.set_out {w : World} {b o : Nat} {u : Value} : ∀ {rs : List RowV} {lo hi : Nat}, OwnRows w lo hi rs → (b < lo ∨ hi ≤ b) → OwnRows (w.setCell ⟨b, o, none⟩ u) lo hi rs
  | [], _, _, h, _ => h
  | _ :: _, _, _, ⟨m, h1, hf, hl, hn, h2⟩, hd => ⟨m, h1, hf.set_out (by have := h2.le; omega), hl, hn, h2.set_out (by omega)⟩
theorem OwnRows.snoc {w : World} {r : RowV} : ∀ {rs : List RowV} {lo mid hi : Nat}, OwnRows w lo mid rs → mid ≤ hi → Fresh w mid hi 3 r.A (nums r.xs) → r.xs.length = r.n → r.n ≤ 1048576 → OwnRows w lo hi (rs ++ [r])
  | [], _, _, hi, h, hm, hf, hl, hn => ⟨hi, Nat.le_trans h hm, hf.more h (Nat.le_refl _), hl, hn, Nat.le_refl _⟩
  | _ :: _, _, _, _, ⟨m, h1, hg, hk, ho, h2⟩, hm, hf, hl, hn => ⟨m, h1, hg, hk, ho, h2.snoc hm hf hl hn⟩
theorem OwnRows.ok {w : World} : ∀ {rs : List RowV} {lo hi : Nat}, OwnRows w lo hi rs → ∀ r ∈ rs, RowOk w r
  | [], _, _, _, _, hr => by cases hr
  | r :: rs, _, _, ⟨_, _, hf, hl, hn, h2⟩, x, hx => by
    rcases List.mem_cons.1 hx with rfl | hx
    · exact ⟨hf.holds, hl, by omega⟩
    · exact h2.ok x hx
/-- Lists of lists of the call's own: block g tells where they lie, the lists are behind it and before hi. -/
def OwnGrid (w : World) (g hi : Nat) (rs : List RowV) : Prop := Whole w g 40 (rowVals rs).toArray ∧ OwnRows w (g + 1) hi rs
theorem OwnGrid.grid {w : World} {g hi : Nat} {rs : List RowV} (h : OwnGrid w g hi rs) : Grid w (some ⟨g, 0, none⟩) rs :=
  ⟨h.1.holds, h.2.ok⟩
theorem OwnGrid.below {w w' : World} {g hi : Nat} {rs : List RowV} (h : OwnGrid w g hi rs) (hb : Below w.heap.size w w') : OwnGrid w' g hi rs := ⟨h.1.below hb, h.2.below hb⟩
theorem OwnGrid.alloc {w : World} {g hi : Nat} {rs : List RowV} (h : OwnGrid w g hi rs) (o : Obj) : OwnGrid (w.alloc o) g hi rs := h.below (below1 w o)
theorem OwnGrid.drew {w : World} {g hi : Nat} {rs : List RowV} (h : OwnGrid w g hi rs) : OwnGrid w.drew g hi rs := h.below ⟨rfl, rfl, rfl, Nat.le_refl _, fun _ _ => rfl⟩

/-- What stands in the copy's block behind k rounds. -/
def filledR (ws : List RowV) (n : Nat) : Array Value := (rowVals ws ++ List.replicate (n - ws.length) (Value.slice none 0 0)).toArray
theorem filledR_done {ws : List RowV} {n : Nat} (h : ws.length = n) : filledR ws n = (rowVals ws).toArray := by simp [filledR, h]
theorem filledR_at {ws : List RowV} {n : Nat} (h : ws.length < n) : (filledR ws n)[ws.length]? = some (.slice none 0 0) := by
  simp only [filledR, List.getElem?_toArray]
  rw [List.getElem?_append_right (by rw [rowVals_len]; omega)]
  simp [rowVals_len, List.getElem?_replicate]
  omega
theorem filledR_next {ws : List RowV} {n : Nat} (r : RowV) (h : ws.length < n) : (filledR ws n).setIfInBounds ws.length r.val = filledR (ws ++ [r]) n := by
  obtain ⟨m, hm⟩ : ∃ m, n - ws.length = m + 1 := ⟨n - ws.length - 1, by omega⟩
  have hm' : n - (ws ++ [r]).length = m := by simp; omega
  unfold filledR
  rw [hm, hm', List.replicate_succ]
  simp only [rowVals, List.map_append, List.map_cons, List.map_nil, List.append_assoc, List.singleton_append]
  rw [List.setIfInBounds_toArray]
  congr 1
  rw [List.set_append_right _ _ (by simp)]
  simp
theorem made_rows (n : Nat) : madeCells (Value.slice none 0 0).cells (n * 1) = (List.replicate n (Value.slice none 0 0)).toArray := by
  apply Array.ext_getElem?
  intro j
  simp [madeCells, Value.cells, Nat.mod_one, Array.getElem?_range]
  by_cases h : j < n <;> simp [h]
theorem info_row : (Try.prog.info? 40).map (fun i => (i.zero, i.size, i.bytes)) = some (some (.slice none 0 0), 1, 24) := by kernel_rfl

/-- What toIntSS hands back. -/
def GridPost (n : Nat) (rs : List RowV) (w : World) (e : Ending) (w' : World) : Prop :=
  ∃ (g : Nat) (ws : List RowV), e = .returned (.slice (some ⟨g, 0, none⟩) n n) ∧ w.heap.size ≤ g ∧ OwnGrid w' g w'.heap.size ws ∧ rowNums ws = rowNums rs ∧ ws.length = n ∧ Below w.heap.size w w'

theorem rowNums_next {ws rs : List RowV} {k : Nat} {r : RowV} (h : rowNums ws = (rowNums rs).take k) (hk : k < rs.length) (hr : r.xs = rs[k].xs) : rowNums (ws ++ [r]) = (rowNums rs).take (k + 1) := by
  rw [List.take_succ_eq_append_getElem (by rw [rowNums_len]; exact hk), ← h]
  simp [rowNums, hr]

set_option maxHeartbeats 800000 in
theorem toIntSS_any (A : Option Addr) (n c : Nat) (rs : List RowV) (w : World) (hA : Grid w A rs) (hx : rs.length = n) (ht : total rs ≤ 1048576) :
    Calls Try.prog 32 #[.slice A n c] w (GridPost n rs w) := by
  have hn : n ≤ 1048576 := by have := total_len rs; omega
  obtain ⟨i0, hi, hz0, hz1, hz2⟩ := info_parts info_row
  have hmk : ∀ W : World, (Instr.makeSlice 28 (.int .i64 (n : Int)) (.int .i64 (n : Int))).run Try.prog W = .ok (.slice (some ⟨W.heap.size, 0, none⟩) n n) (W.alloc (.cells (filledR [] n) 40)) := by
    intro W
    have h := run_make (P := Try.prog) W 28 40 i0 _ Try.underlying28 hi hz0 .i64 .i64 n n (by omega) (by omega) (by rw [hz2]; omega) (by omega)
    simp only [Int.toNat_natCast, hz1, made_rows] at h
    rw [h]
    simp [filledR, rowVals]
  have HX := Lib.hid hx
  clear hi hz0 hz1 hz2 hx
  go_enter Try.func32, Try.ntmps32
  go_wp2
  have h0 := Whole.fresh w 40 (filledR [] n)
  have hb0 : Below w.heap.size w (w.alloc (.cells (filledR [] n) 40)) := (Below.refl _ _).alloc (Nat.le_refl _) _
  go_loopw [4] (fun i wr => ∃ (k : Nat) (ws : List RowV), k ≤ n ∧ i = .int .i64 k ∧ ws.length = k ∧ Whole wr w.heap.size 40 (filledR ws n) ∧ Below w.heap.size w wr ∧ OwnRows wr (w.heap.size + 1) wr.heap.size ws ∧ rowNums ws = (rowNums rs).take k) (fun i _ => n - (intOf i).toNat)
  case atStart => exact ⟨0, [], Nat.zero_le _, rfl, rfl, h0, hb0, by simp [OwnRows], rfl⟩
  case round =>
    obtain ⟨k, ws, hk, rfl, hlen, hw, hb, hown, hnums⟩ := hrel
    clear hmk h0 hb0
    subst hlen
    have HNUM := Lib.hid hnums
    have hwl := hw.lt
    by_cases hlt : ws.length < n
    · have hkr : ws.length < rs.length := by have := HX.out; omega
      obtain ⟨b, o, rfl, hbl, hc, hok⟩ := (hA.below hb).look hkr
      have hsz : rs[ws.length].n ≤ 1048576 := Nat.le_trans (total_row hkr) ht
      clear hnums
      go_wp2_with fail
      refine (toIntS_own _ _ _ rs[ws.length].xs _ hok.1 hok.2.1 hsz).mono ?_
      rintro e w1 ⟨g1, rfl, hg1, hw1, hb1⟩
      have hF := Fresh.of_whole (lo := wr.heap.size) (hi := w1.heap.size) hw1 hg1 hw1.lt
      have hwz : wr.heap.size ≤ w1.heap.size := hb1.size
      have hown1 := (hown.below hb1).snoc (r := ⟨some ⟨g1, 0, none⟩, rs[ws.length].n, rs[ws.length].n, rs[ws.length].xs⟩) hwz hF hok.2.1 hsz
      have hown2 := hown1.set_out (b := w.heap.size) (o := ws.length) (u := .slice (some ⟨g1, 0, none⟩) rs[ws.length].n rs[ws.length].n) (.inl (by omega))
      have hw2 := hw.below hb1
      have hcell : w1.cell? ⟨w.heap.size, ws.length, none⟩ = some (.slice none 0 0) := (hw2.cell _).trans (filledR_at hlt)
      have hfr := hw2.open_ ws.length
      have hnext := hw2.set_ ws.length (.slice (some ⟨g1, 0, none⟩) rs[ws.length].n rs[ws.length].n)
      rw [show (Value.slice (some ⟨g1, 0, none⟩) rs[ws.length].n rs[ws.length].n) = RowV.val ⟨some ⟨g1, 0, none⟩, rs[ws.length].n, rs[ws.length].n, rs[ws.length].xs⟩ from rfl, filledR_next _ hlt] at hnext
      have hbw := below_then hb hb1 hb.size
      have HNX := Lib.hid (rowNums_next (r := ⟨some ⟨g1, 0, none⟩, rs[ws.length].n, rs[ws.length].n, rs[ws.length].xs⟩) HNUM.out hkr rfl)
      have HO := Lib.hid hown2
      have HN := Lib.hid hnext
      clear hown hown1 hown2 hnext hw hw2 hF hb hc hw1 hok
      go_wp2
      go_roundw
      case rel => exact ⟨ws.length + 1, _, by omega, by go_num, by simp, HN.out, hbw.setCell (Nat.le_refl _) _, by simpa [World.setCell] using HO.out, HNX.out⟩
      case measure => simp [intOf]; omega
    · have hkn : ws.length = n := by omega
      rw [filledR_done hkn] at hw
      have HK := Lib.hid hkn
      clear hnums hkn
      go_wp2
      go_ret
      exact ⟨w.heap.size, ws, rfl, Nat.le_refl _, ⟨hw, hown⟩, by rw [HNUM.out, List.take_of_length_le (by rw [rowNums_len, HX.out, HK.out]; exact Nat.le_refl _)], HK.out, hb⟩

/-- Two lists of one reading are the same; nothing but draws. -/
theorem eqIntS_drawn (A B : Option Addr) (n m c d : Nat) (xs ys : List Int) (w : World) (k : Nat) (hA : Holds (w.drewN k) A (nums xs)) (hB : Holds (w.drewN k) B (nums ys)) (hx : xs.length = n) (hy : ys.length = m) (he : xs = ys) (hn : n ≤ 9223372036854775807) :
    Calls Try.prog 27 #[.slice A n c, .slice B m d] (w.drewN k) fun e w'' => e = .returned (.bool true) ∧ ∃ q, w'' = w.drewN q :=
  Calls.quiet_of ((eqIntS_any A B n m c d xs ys _ hA hB hx hy hn (by subst he; omega)).mono fun _ _ ⟨h, q⟩ => ⟨by rw [h, sameInts_yes he], q⟩)

theorem rowNums_at {rs ss : List RowV} (h : rowNums rs = rowNums ss) {k : Nat} (hk : k < rs.length) (hk' : k < ss.length) : rs[k].xs = ss[k].xs := by
  have h1 := congrArg (fun l : List (List Int) => l[k]?) h
  simpa [rowNums, hk, hk'] using h1

set_option maxHeartbeats 800000 in
theorem eqIntSS_yes (A B : Option Addr) (n m c d : Nat) (rs ss : List RowV) (w : World) (hA : Grid w A rs) (hB : Grid w B ss) (he : rowNums rs = rowNums ss) (hx : rs.length = n) (hy : ss.length = m) (hn : n ≤ 9223372036854775807) :
    Calls Try.prog 19 #[.slice A n c, .slice B m d] w fun e w' => e = .returned (.bool true) ∧ Below w.heap.size w w' := by
  have hl : rs.length = ss.length := by rw [← rowNums_len rs, ← rowNums_len ss, he]
  subst hx hy
  have hl' : ((rs.length : Int) != (ss.length : Int)) = false := by simp [hl]
  have HL := Lib.hid hl
  have HE := Lib.hid he
  clear hl he
  go_enter Try.func19, Try.ntmps19
  go_wp2
  go_loopw [5] (fun i wr => ∃ k : Nat, k ≤ rs.length ∧ i = .int .i64 k ∧ Below w.heap.size w wr) (fun i _ => rs.length - (intOf i).toNat)
  case atStart => exact ⟨0, Nat.zero_le _, rfl, Below.refl _ _⟩
  case round =>
    obtain ⟨k, hk, rfl, hb⟩ := hrel
    by_cases hlt : k < rs.length
    · have hlt' : k < ss.length := by have := HL.out; omega
      obtain ⟨b, o, rfl, hbl, hc, hok⟩ := (hA.below hb).look hlt
      obtain ⟨b', o', rfl, hbl', hc', hok'⟩ := (hB.below hb).look hlt'
      have HV := Lib.hid (rowNums_at HE.out hlt hlt')
      go_wp2
      go_quiet ((go_at_call 27; exact eqIntS_drawn _ _ _ _ _ _ rs[k].xs ss[k].xs wr _ (hok.1.below (below_draws (Below.refl _ _) _)) (hok'.1.below (below_draws (Below.refl _ _) _)) hok.2.1 hok'.2.1 HV.out hok.2.2))
      go_wp2
      go_roundw
      case rel => exact ⟨k + 1, by omega, by go_num, below_draws hb _⟩
      case measure => simp [intOf]; omega
    · go_wp2
      go_ret
      exact ⟨rfl, hb⟩
end Go.Proofs.Ytkdjdnknhbmliaa

namespace Go.Proofs.Ytkdjdnknhbmliaa
open Go.RowKit

/-- The same place with other numbers. -/
def RowV.put (r : RowV) (ys : List Int) : RowV := ⟨r.A, r.n, r.c, ys⟩
/-- Rows of the call's own, each in a range of blocks that no other one meets. -/
def FreeRows (w : World) (ps : List (Nat × Nat)) (rs : List RowV) : Prop :=
  ps.length = rs.length ∧ (∀ (k : Nat) r p, rs[k]? = some r → ps[k]? = some p → Fresh w p.1 p.2 3 r.A (nums r.xs) ∧ r.xs.length = r.n ∧ r.n ≤ 1048576) ∧
    ∀ (i j : Nat) p p', i ≠ j → ps[i]? = some p → ps[j]? = some p' → p.2 ≤ p'.1 ∨ p'.2 ≤ p.1
/-- A list of lists of the call's own, all of it in blocks from lo on and before hi. -/
def FreeGrid (w : World) (lo hi : Nat) (A : Option Addr) (rs : List RowV) : Prop :=
  ∃ ps, FreeRows w ps rs ∧ (∀ p ∈ ps, lo ≤ p.1 ∧ p.2 ≤ hi) ∧ (rs = [] ∨ ∃ b o, A = some ⟨b, o, none⟩ ∧ b < w.heap.size ∧ lo ≤ b ∧ b < hi ∧ (∀ p ∈ ps, b < p.1 ∨ p.2 ≤ b) ∧ ∀ j u, (rowVals rs)[j]? = some u → w.cell? ⟨b, o + j, none⟩ = some u)
section
variable {w w' : World} {lo hi lo' hi' : Nat} {A : Option Addr} {rs : List RowV} {ps : List (Nat × Nat)}
theorem FreeRows.below (h : FreeRows w ps rs) (hb : Below w.heap.size w w') : FreeRows w' ps rs :=
  ⟨h.1, fun k r p hr hp => ⟨(h.2.1 k r p hr hp).1.below hb, (h.2.1 k r p hr hp).2⟩, h.2.2⟩
theorem FreeGrid.below (h : FreeGrid w lo hi A rs) (hb : Below w.heap.size w w') : FreeGrid w' lo hi A rs := by
  obtain ⟨ps, h1, h2, h3⟩ := h
  refine ⟨ps, h1.below hb, h2, ?_⟩
  rcases h3 with h3 | ⟨b, o, hA, hl, g1, g2, hd, hc⟩
  · exact .inl h3
  · exact .inr ⟨b, o, hA, Nat.lt_of_lt_of_le hl hb.size, g1, g2, hd, fun j u hu => (hb.cell (p := ⟨b, o + j, none⟩) hl).trans (hc j u hu)⟩
theorem FreeGrid.alloc (h : FreeGrid w lo hi A rs) (o : Obj) : FreeGrid (w.alloc o) lo hi A rs := h.below (below1 w o)
theorem FreeGrid.drew (h : FreeGrid w lo hi A rs) : FreeGrid w.drew lo hi A rs := h.below ⟨rfl, rfl, rfl, Nat.le_refl _, fun _ _ => rfl⟩
theorem FreeGrid.more (h : FreeGrid w lo hi A rs) (h1 : lo' ≤ lo) (h2 : hi ≤ hi') : FreeGrid w lo' hi' A rs := by
  obtain ⟨ps, g1, g2, g3⟩ := h
  refine ⟨ps, g1, fun p hp => ⟨Nat.le_trans h1 (g2 p hp).1, Nat.le_trans (g2 p hp).2 h2⟩, ?_⟩
  rcases g3 with g3 | ⟨b, o, hA, hl, k1, k2, hd, hc⟩
  · exact .inl g3
  · exact .inr ⟨b, o, hA, hl, Nat.le_trans h1 k1, Nat.lt_of_lt_of_le k2 h2, hd, hc⟩
theorem FreeGrid.grid (h : FreeGrid w lo hi A rs) : Grid w A rs := by
  obtain ⟨ps, g1, g2, g3⟩ := h
  refine ⟨?_, fun r hr => ?_⟩
  · rcases g3 with rfl | ⟨b, o, hA, hl, -, -, -, hc⟩
    · exact .inl rfl
    · exact .inr ⟨b, o, hA, hl, hc⟩
  · obtain ⟨k, hk, rfl⟩ := List.getElem_of_mem hr
    obtain ⟨a1, a2, a3⟩ := g1.2.1 k rs[k] (ps[k]'(by rw [g1.1]; exact hk)) (List.getElem?_eq_getElem hk) (List.getElem?_eq_getElem (by rw [g1.1]; exact hk))
    exact ⟨a1.holds, a2, by omega⟩
theorem Span.wider (h : Span lo' hi' w w') (h1 : lo ≤ lo') (h2 : hi' ≤ hi) : Span lo hi w w' := ⟨h.os, h.tape, h.output, h.size, fun k hk hd => h.block k hk (by omega)⟩
theorem Span.cell (h : Span lo hi w w') {p : Addr} (hl : p.block < w.heap.size) (hg : p.block < lo ∨ hi ≤ p.block) : w'.cell? p = w.cell? p := by
  unfold World.cell?
  rw [h.block p.block hl hg]
theorem Span.freeRows (h : Span lo hi w w') (hf : FreeRows w ps rs) (hd : ∀ p ∈ ps, p.2 ≤ lo ∨ hi ≤ p.1) : FreeRows w' ps rs :=
  ⟨hf.1, fun k r p hr hp => ⟨h.fresh (hf.2.1 k r p hr hp).1 (hd p (List.mem_of_getElem? hp)), (hf.2.1 k r p hr hp).2⟩, hf.2.2⟩
theorem Span.freeGrid (h : Span lo hi w w') (hf : FreeGrid w lo' hi' A rs) (hd : hi' ≤ lo ∨ hi ≤ lo') : FreeGrid w' lo' hi' A rs := by
  obtain ⟨ps, g1, g2, g3⟩ := hf
  refine ⟨ps, h.freeRows g1 (fun p hp => by have := g2 p hp; omega), g2, ?_⟩
  rcases g3 with g3 | ⟨b, o, hA, hl, k1, k2, hdd, hc⟩
  · exact .inl g3
  · exact .inr ⟨b, o, hA, Nat.lt_of_lt_of_le hl h.size, k1, k2, hdd, fun j u hu => (h.cell (p := ⟨b, o + j, none⟩) hl (by show b < lo ∨ hi ≤ b; omega)).trans (hc j u hu)⟩
/-- Behind a row that has turned: the others stand as they were. -/
theorem FreeRows.turn (h : FreeRows w ps rs) {k : Nat} {r : RowV} {p : Nat × Nat} (hr : rs[k]? = some r) (hp : ps[k]? = some p) (hs : Span p.1 p.2 w w') {ys : List Int} (hf : Fresh w' p.1 p.2 3 r.A (nums ys)) (hy : ys.length = r.n) : FreeRows w' ps (rs.set k (r.put ys)) := by
  refine ⟨by simp [h.1], fun i r' p' hi hp' => ?_, h.2.2⟩
  rw [List.getElem?_set] at hi
  by_cases he : k = i
  · subst he
    obtain rfl : p = p' := by rw [hp] at hp'; exact Option.some.inj hp'
    rw [if_pos rfl] at hi
    split at hi
    · obtain rfl := Option.some.inj hi
      exact ⟨hf, hy, (h.2.1 k r p hr hp).2.2⟩
    · cases hi
  · rw [if_neg he] at hi
    exact ⟨hs.fresh (h.2.1 i r' p' hi hp').1 (by have := h.2.2 i k p' p (fun e => he e.symm) hp' hp; omega), (h.2.1 i r' p' hi hp').2⟩
theorem FreeGrid.turn (h : FreeGrid w lo hi A rs) {k : Nat} (hk : k < rs.length) : ∃ a b, lo ≤ a ∧ b ≤ hi ∧ Fresh w a b 3 rs[k].A (nums rs[k].xs) ∧ rs[k].xs.length = rs[k].n ∧ rs[k].n ≤ 1048576 ∧
    ∀ w' ys, Span a b w w' → Fresh w' a b 3 rs[k].A (nums ys) → ys.length = rs[k].n → FreeGrid w' lo hi A (rs.set k (rs[k].put ys)) := by
  obtain ⟨ps, g1, g2, g3⟩ := h
  have hk' : k < ps.length := by rw [g1.1]; exact hk
  have e1 : rs[k]? = some rs[k] := List.getElem?_eq_getElem hk
  have e2 : ps[k]? = some ps[k] := List.getElem?_eq_getElem hk'
  have hb := g2 _ (List.getElem_mem hk')
  obtain ⟨f1, f2, f3⟩ := g1.2.1 k _ _ e1 e2
  refine ⟨ps[k].1, ps[k].2, hb.1, hb.2, f1, f2, f3, fun w' ys hs hf hy => ⟨ps, g1.turn e1 e2 hs hf hy, g2, ?_⟩⟩
  rcases g3 with g3 | ⟨b, o, hA, hl, k1, k2, hdd, hc⟩
  · subst g3; simp at hk
  · refine .inr ⟨b, o, hA, Nat.lt_of_lt_of_le hl hs.size, k1, k2, hdd, fun j u hu => (hs.cell (p := ⟨b, o + j, none⟩) hl (by have := hdd _ (List.getElem_mem hk'); show b < ps[k].1 ∨ ps[k].2 ≤ b; omega)).trans (hc j u ?_)⟩
    rw [← hu]
    simp only [rowVals, List.getElem?_map, List.getElem?_set]
    by_cases he : k = j
    · subst he
      rw [if_pos rfl, if_pos hk, e1]
      rfl
    · rw [if_neg he]
end
/-- The ranges of lists that lie one behind the other. -/
theorem OwnRows.free {w : World} : ∀ {rs : List RowV} {lo hi : Nat}, OwnRows w lo hi rs → ∃ ps, FreeRows w ps rs ∧ ∀ p ∈ ps, lo ≤ p.1 ∧ p.2 ≤ hi
  | [], _, _, _ => ⟨[], ⟨rfl, fun k r p hr => by simp at hr, fun i j p p' _ hi => by simp at hi⟩, fun p hp => by cases hp⟩
  | r :: rs, lo, hi, ⟨mid, h1, hf, hl, hn, h2⟩ => by
    obtain ⟨ps, g, hg⟩ := h2.free
    have hle := h2.le
    refine ⟨(lo, mid) :: ps, ⟨by simp [g.1], fun k r' p hr hp => ?_, fun i j p p' hij hi hj => ?_⟩, fun p hp => ?_⟩
    · cases k with
      | zero => simp only [List.getElem?_cons_zero, Option.some.injEq] at hr hp; subst hr hp; exact ⟨hf, hl, hn⟩
      | succ k => simp only [List.getElem?_cons_succ] at hr hp; exact g.2.1 k r' p hr hp
    · cases i with
      | zero =>
        cases j with
        | zero => exact absurd rfl hij
        | succ j =>
          simp only [List.getElem?_cons_zero, List.getElem?_cons_succ, Option.some.injEq] at hi hj
          subst hi
          exact .inl (hg p' (List.mem_of_getElem? hj)).1
      | succ i =>
        cases j with
        | zero =>
          simp only [List.getElem?_cons_zero, List.getElem?_cons_succ, Option.some.injEq] at hi hj
          subst hj
          exact .inr (hg p (List.mem_of_getElem? hi)).1
        | succ j =>
          simp only [List.getElem?_cons_succ] at hi hj
          exact g.2.2 i j p p' (by omega) hi hj
    · rcases List.mem_cons.1 hp with rfl | hp
      · exact ⟨Nat.le_refl _, hle⟩
      · exact ⟨Nat.le_trans h1 (hg p hp).1, (hg p hp).2⟩
theorem OwnGrid.free {w : World} {g hi : Nat} {rs : List RowV} (h : OwnGrid w g hi rs) : FreeGrid w g hi (some ⟨g, 0, none⟩) rs := by
  obtain ⟨ps, h1, h2⟩ := h.2.free
  refine ⟨ps, h1, fun p hp => ⟨by have := (h2 p hp).1; omega, (h2 p hp).2⟩, .inr ⟨g, 0, rfl, h.1.lt, Nat.le_refl _, h.2.le, fun p hp => .inl (h2 p hp).1, fun j u hu => ?_⟩⟩
  rw [Nat.zero_add, h.1.cell j]
  simpa using hu

theorem part_sum {rs : List RowV} : part rs rs.length = (rs.map RowV.n).sum := by simp [part]
theorem part_nums {w : World} {A B : Option Addr} {rs ss : List RowV} (hA : Grid w A rs) {w' : World} (hB : Grid w' B ss) (h : rowNums rs = rowNums ss) : part rs rs.length = part ss ss.length := by
  rw [part_sum, part_sum]
  have e : ∀ {u : World} {C : Option Addr} {ts : List RowV}, Grid u C ts → ts.map RowV.n = (rowNums ts).map List.length := by
    intro u C ts hC
    rw [rowNums, List.map_map]
    exact List.map_congr_left fun r hr => (hC.2 r hr).2.1.symm
  rw [e hA, e hB, h]
theorem part_total (rs : List RowV) : part rs rs.length ≤ total rs := by unfold total; omega

/-- The first k lists overwritten by a count from q on. -/
def markTo (q : Int) (rs : List RowV) (k : Nat) : List RowV := (List.range rs.length).map fun j => if j < k then (rs.getD j ⟨none, 0, 0, []⟩).put (marksI (q + part rs j) (rs.getD j ⟨none, 0, 0, []⟩).n) else rs.getD j ⟨none, 0, 0, []⟩
theorem markTo_len (q : Int) (rs : List RowV) (k : Nat) : (markTo q rs k).length = rs.length := by simp [markTo]
theorem markTo_zero (q : Int) (rs : List RowV) : markTo q rs 0 = rs := by
  apply List.ext_getElem
  · simp [markTo]
  · intro i h1 h2
    simp [markTo, h2]
theorem markTo_at (q : Int) (rs : List RowV) (k i : Nat) (h : i < (markTo q rs k).length) : (markTo q rs k)[i] = if i < k then (rs[i]'(by rw [markTo_len] at h; exact h)).put (marksI (q + part rs i) (rs[i]'(by rw [markTo_len] at h; exact h)).n) else rs[i]'(by rw [markTo_len] at h; exact h) := by
  have h' : i < rs.length := by rw [markTo_len] at h; exact h
  simp [markTo, h']
theorem markTo_here (q : Int) (rs : List RowV) (k : Nat) (h : k < (markTo q rs k).length) : (markTo q rs k)[k] = rs[k]'(by rw [markTo_len] at h; exact h) := by
  rw [markTo_at, if_neg (by omega)]
theorem markTo_next (q : Int) (rs : List RowV) {k : Nat} (h : k < rs.length) : (markTo q rs k).set k (rs[k].put (marksI (q + part rs k) rs[k].n)) = markTo q rs (k + 1) := by
  apply List.ext_getElem
  · simp [markTo_len]
  · intro i h1 h2
    rw [List.getElem_set]
    by_cases he : k = i
    · subst he
      rw [if_pos rfl, markTo_at, if_pos (by omega)]
    · rw [if_neg he, markTo_at, markTo_at]
      by_cases hi : i < k
      · rw [if_pos hi, if_pos (by omega)]
      · rw [if_neg hi, if_neg (by omega)]

set_option maxHeartbeats 800000 in
theorem markIntSS_any (A : Option Addr) (n c lo hi : Nat) (rs : List RowV) (q : Int) (w : World) (hf : FreeGrid w lo hi A rs) (hx : rs.length = n) (h0 : 0 ≤ q) (h1 : q ≤ 2305843009213693952) (hn : n ≤ 1048576) (hp : part rs rs.length ≤ 1048576) :
    Calls Try.prog 22 #[.slice A n c, .int .i64 q] w fun e w' => e = .returned (.int .i64 (q + (part rs rs.length : Nat))) ∧ Span lo hi w w' ∧ FreeGrid w' lo hi A (markTo q rs rs.length) := by
  have HX := Lib.hid hx
  have HM : Hid (FreeGrid w lo hi A (markTo q rs 0)) := by show FreeGrid _ _ _ _ _; rw [markTo_zero]; exact hf
  clear hx hf
  go_enter Try.func22, Try.ntmps22
  go_wp2
  go_loopw [1, 5] (fun v i wr => ∃ k : Nat, k ≤ n ∧ i = .int .i64 k ∧ v = .int .i64 (q + part rs k) ∧ FreeGrid wr lo hi A (markTo q rs k) ∧ Span lo hi w wr) (fun _ i _ => n - (intOf i).toNat)
  case atStart => exact ⟨0, Nat.zero_le _, rfl, by simp [part_zero], HM.out, Span.refl _ _ _⟩
  case round =>
    obtain ⟨k, hk, rfl, rfl, hm, hs⟩ := hrel
    clear HM
    by_cases hlt : k < n
    · have hkr : k < rs.length := by have := HX.out; omega
      have hkm : k < (markTo q rs k).length := by rw [markTo_len]; exact hkr
      obtain ⟨b, o, rfl, hb, hc, hok⟩ := hm.grid.look hkm
      obtain ⟨lo1, hi1, l1, l2, hf, hl, hs1, hturn⟩ := hm.turn hkm
      have hpl := part_le (rs := rs) (Nat.le_refl _) (j := k) (by omega)
      have hpn := part_next hkr
      have HPN := Lib.hid hpn
      have HT := Lib.hid hturn
      have HN := Lib.hid (markTo_next q rs hkr)
      have HF := Lib.hid hf
      have HL := Lib.hid hl
      have HE := Lib.hid (markTo_here q rs k hkm)
      rw [HE.out] at hc
      rw [HE.out] at hs1
      have HS := Lib.hid hs
      clear hm hf hl hturn hok hpn hs
      have hq0 : (0 : Int) ≤ q + part rs k := by omega
      have hq1 : q + (part rs k : Int) ≤ 4611686018427387904 := by omega
      go_wp2_with fail
      refine (markIntS_any rs[k].A rs[k].n _ lo1 hi1 (nums rs[k].xs) _ _ (by rw [← HE.out]; exact HF.out) (by rw [nums_len, ← HE.out]; exact HL.out) hq0 hq1 hs1).mono ?_
      rintro e w1 ⟨rfl, hs2, hf2⟩
      have hsz : Span lo hi w w1 := HS.out.trans (hs2.wider l1 l2)
      have HG : Hid (FreeGrid w1 lo hi (some ⟨b, o, none⟩) (markTo q rs (k + 1))) := by
        show FreeGrid _ _ _ _ _
        rw [← HN.out]
        have h := HT.out w1 (marksI (q + part rs k) rs[k].n) hs2 (by rw [HE.out]; exact hf2) (by rw [marksI_len, HE.out])
        rw [HE.out] at h
        exact h
      clear hs2 hf2 HT
      go_wp2
      go_roundw
      case rel => exact ⟨k + 1, by omega, by go_num, by rw [HPN.out]; first | exact congrArg _ (by omega) | (simp; omega), HG.out, hsz⟩
      case measure => simp [intOf]; omega
    · have hkn : k = rs.length := by have := HX.out; omega
      subst hkn
      go_wp2
      go_ret
      exact ⟨rfl, hs, hm⟩

set_option maxHeartbeats 800000 in
theorem heldIntSS_any (A : Option Addr) (n c : Nat) (rs : List RowV) (q : Int) (w : World) (hA : Grid w A (markTo q rs rs.length)) (hx : rs.length = n) (h0 : 0 ≤ q) (h1 : q ≤ 2305843009213693952) (hn : n ≤ 1048576) (hp : part rs rs.length ≤ 1048576) :
    Calls Try.prog 23 #[.slice A n c, .int .i64 q] w fun e w' => e = .returned (.int .i64 (q + (part rs rs.length : Nat))) ∧ Below w.heap.size w w' := by
  have HX := Lib.hid hx
  clear hx
  go_enter Try.func23, Try.ntmps23
  go_wp2
  go_loop [1, 5] (fun v i => ∃ k : Nat, k ≤ n ∧ i = .int .i64 k ∧ v = .int .i64 (q + part rs k)) (fun _ i => n - (intOf i).toNat)
  case atStart => exact ⟨0, Nat.zero_le _, rfl, by simp [part_zero]⟩
  case round =>
    obtain ⟨k, hk, rfl, rfl⟩ := hrel
    by_cases hlt : k < n
    · have hkr : k < rs.length := by have := HX.out; omega
      have hkm : k < (markTo q rs rs.length).length := by rw [markTo_len]; exact hkr
      obtain ⟨b, o, rfl, hb, hc, hok⟩ := hA.look hkm
      have he : (markTo q rs rs.length)[k] = (rs[k].put (marksI (q + part rs k) rs[k].n)) := by rw [markTo_at, if_pos hkr]
      rw [he] at hc hok
      have hpl := part_le (rs := rs) (Nat.le_refl _) (j := k + 1) (by omega)
      have hpn := part_next hkr
      have hs1 : rs[k].n ≤ 1048576 := by omega
      have HPN := Lib.hid hpn
      have HOK := Lib.hid hok.1
      have hq0 : (0 : Int) ≤ q + part rs k := by omega
      have hq1 : q + (part rs k : Int) ≤ 4611686018427387904 := by omega
      have hq2 : (0 : Int) ≤ q + part rs k + rs[k].n := by omega
      clear he hok hpn
      simp only [RowV.put] at hc
      go_wp2_with fail
      refine (heldIntS_any rs[k].A rs[k].n _ _ _ HOK.out hq0 hq1 hs1).mono ?_
      rintro e w1 ⟨rfl, rfl⟩
      go_wp2
      go_round
      case rel => exact ⟨k + 1, by omega, by go_num, by rw [HPN.out]; first | exact congrArg _ (by omega) | (simp; omega)⟩
      case measure => simp [intOf]; omega
    · have hkn : k = rs.length := by have := HX.out; omega
      subst hkn
      go_wp2
      go_ret
      exact ⟨rfl, Below.refl _ _⟩
end Go.Proofs.Ytkdjdnknhbmliaa

namespace Go.Proofs.Ytkdjdnknhbmliaa
open Go.RowKit

theorem Fresh.turn {w : World} {lo hi k : Nat} {ty : TypeId} {A : Option Addr} {xs : List Value} (hf : Fresh w lo hi ty A xs) (hk : k < xs.length) :
    ∃ g u, A = some ⟨g, 0, none⟩ ∧ lo ≤ g ∧ g < hi ∧ g < w.heap.size ∧ w.cell? ⟨g, k, none⟩ = some u ∧ w.frozen? ⟨g, k, none⟩ = false ∧ ∀ v, Fresh (w.setCell ⟨g, k, none⟩ v) lo hi ty A (xs.set k v) := by
  rcases hf with rfl | ⟨g, cs, hA, h1, h2, hw, h3, h4⟩
  · simp at hk
  · refine ⟨g, cs[k]'(by omega), hA, h1, h2, hw.lt, (hw.cell k).trans (by simp), hw.open_ k, fun v => .inr ⟨g, _, hA, h1, h2, hw.set_ k v, by simpa using h3, ?_⟩⟩
    rw [List.length_set, Array.toList_setIfInBounds, ← h4, List.take_set, List.length_take]
    congr 2
    simp only [Array.length_toList]
    omega

/-- What stands behind the model's copy of the state. -/
def CrossMid (m : Nat) (bs : List Bool) (t : Bool) (b o d : Nat) (w : World) (v : Value) (wx : World) : Prop :=
  ∃ (g c lo hi : Nat) (A : Option Addr), v = .pointer (some ⟨g, 0, none⟩) ∧ w.heap.size + 1 + 1 ≤ g ∧ w.heap.size + 1 + 1 ≤ lo ∧ (g < lo ∨ hi ≤ g) ∧ hi ≤ wx.heap.size ∧ Whole wx g 33 #[.slice A m c, .bool (!t)] ∧ Fresh wx lo hi 4 A (bits bs) ∧ Whole wx w.heap.size 33 #[.slice (some ⟨b, o, none⟩) m d, .bool t] ∧ Whole wx (w.heap.size + 1) 33 #[.slice none 0 0, .bool false] ∧ Below w.heap.size w wx

end Go.Proofs.Ytkdjdnknhbmliaa

namespace Go.Proofs.Ytkdjdnknhbmliaa
open Go.RowKit

theorem Holds.spot {w : World} {A : Option Addr} {xs : List Value} (h : Holds w A xs) (h0 : 0 < xs.length) : ∃ b o, A = some ⟨b, o, none⟩ ∧ b < w.heap.size ∧ ∀ j u, xs[j]? = some u → w.cell? ⟨b, o + j, none⟩ = some u := by
  rcases h with rfl | h
  · simp at h0
  · exact h
/-- The places lie in a block that is old or new, but none of the call's own first three. -/
def Apart (B : Nat) (w : World) (A : Option Addr) (xs : List Value) : Prop := ∃ b o, A = some ⟨b, o, none⟩ ∧ b < w.heap.size ∧ (b < B ∨ B + 1 + 1 + 1 ≤ b) ∧ ∀ j u, xs[j]? = some u → w.cell? ⟨b, o + j, none⟩ = some u
theorem Apart.holds {B : Nat} {w : World} {A : Option Addr} {xs : List Value} (h : Apart B w A xs) : Holds w A xs := by
  obtain ⟨b, o, hA, hb, -, hc⟩ := h
  exact .inr ⟨b, o, hA, hb, hc⟩
theorem Apart.below {B : Nat} {w w' : World} {A : Option Addr} {xs : List Value} (h : Apart B w A xs) (hb : Below w.heap.size w w') : Apart B w' A xs := by
  obtain ⟨b, o, hA, hl, hd, hc⟩ := h
  exact ⟨b, o, hA, Nat.lt_of_lt_of_le hl hb.size, hd, fun j u hu => (hb.cell (p := ⟨b, o + j, none⟩) hl).trans (hc j u hu)⟩
theorem Apart.set {B g i : Nat} {w : World} {A : Option Addr} {xs : List Value} (h : Apart B w A xs) (hg : B ≤ g ∧ g ≤ B + 1 + 1) (v : Value) : Apart B (w.setCell ⟨g, i, none⟩ v) A xs := by
  obtain ⟨b, o, hA, hl, hd, hc⟩ := h
  refine ⟨b, o, hA, by simpa [World.setCell] using hl, hd, fun j u hu => ?_⟩
  have h1 := hc j u hu
  have h2 := Below.heap_setCell w ⟨g, i, none⟩ v b (by show b ≠ g; omega)
  simp only [World.cell?] at h1 ⊢
  rw [h2]
  exact h1

/-- What paPlay hands back. -/
def PlayPost (n : Nat) (s : Int) (bs : List Bool) (t : Bool) (ls : List (List Int)) (m : Nat) (w : World) (e : Ending) (w' : World) : Prop :=
  ∃ (A : Option Addr) (c : Nat), e = .returned (.tuple #[.agg #[.slice A m c, .bool (ended n s bs t ls).2], .int .i64 (made n s bs t ls)]) ∧ Holds w' A (bits (ended n s bs t ls).1) ∧ Below w.heap.size w w'

theorem rowNums_get {rs : List RowV} {k : Nat} (hk : k < rs.length) : (rowNums rs)[k]'(by rw [rowNums_len]; exact hk) = rs[k].xs := by simp [rowNums]

end Go.Proofs.Ytkdjdnknhbmliaa

namespace Go.Proofs.Ytkdjdnknhbmliaa
open Go.RowKit


/-- A list of lists that the call makes and goes on with: its heads in a block of the call's own, each row in a range of blocks of its own, all from lo on. -/
def Heads (w : World) (lo : Nat) (A : Option Addr) (c : Nat) (rs : List RowV) : Prop :=
  w.ownsRow lo 40 1 (.slice A rs.length c) rs.length (rowVals rs) ∧
    ∃ ps, FreeRows w ps rs ∧ (∀ p ∈ ps, lo ≤ p.1 ∧ p.2 ≤ w.heap.size) ∧ ∀ a : Addr, A = some a → ∀ p ∈ ps, a.block < p.1 ∨ p.2 ≤ a.block
theorem Heads.nil (w : World) (lo : Nat) : Heads w lo none 0 [] :=
  ⟨World.ownsRow_nil _ _ _ _, [], ⟨rfl, fun k r p h => by simp at h, fun i j p p' _ h => by simp at h⟩, fun p h => by simp at h, fun a h => by cases h⟩
theorem own_keep {w w' : World} {base : Nat} {e : TypeId} {size : Nat} {v : Value} {n : Nat} {xs : List Value} (h : w.ownsRow base e size v n xs) (hb : Below w.heap.size w w') : w'.ownsRow base e size v n xs := by
  obtain ⟨hl, h | ⟨g, cap, cur, hv, hg, hh, r⟩⟩ := h
  · exact ⟨hl, .inl h⟩
  · exact ⟨hl, .inr ⟨g, cap, cur, hv, hg, (hb.block g (Array.getElem?_eq_some_iff.1 hh).1).trans hh, r⟩⟩
theorem Heads.below {w w' : World} {lo c : Nat} {A : Option Addr} {rs : List RowV} (h : Heads w lo A c rs) (hb : Below w.heap.size w w') : Heads w' lo A c rs := by
  obtain ⟨h1, ps, h2, h3, h4⟩ := h
  exact ⟨own_keep h1 hb, ps, h2.below hb, fun p hp => ⟨(h3 p hp).1, Nat.le_trans (h3 p hp).2 hb.size⟩, h4⟩
theorem Heads.alloc {w : World} {lo c : Nat} {A : Option Addr} {rs : List RowV} (h : Heads w lo A c rs) (o : Obj) : Heads (w.alloc o) lo A c rs := h.below (below1 w o)
theorem fresh_grown {w w' : World} {lo hi : Nat} {ty : TypeId} {A : Option Addr} {xs : List Value} {row : Option Nat} (hf : Fresh w lo hi ty A xs) (hg : w.grownBy w' row) (hd : ∀ g, row = some g → g < lo ∨ hi ≤ g) : Fresh w' lo hi ty A xs := by
  rcases hf with h | ⟨g, cs, hA, h1, h2, hw, h3, h4⟩
  · exact .inl h
  · refine .inr ⟨g, cs, hA, h1, h2, ?_, h3, h4⟩
    exact (hg.block g hw.lt (fun e => by have := hd g e.symm; omega)).trans hw
/-- A row more. -/
theorem Heads.push {w w1 w2 : World} {lo c cap g : Nat} {A : Option Addr} {rs : List RowV} {r : RowV} (h : Heads w lo A c rs) (hlo : lo ≤ w.heap.size) (hb : Below w.heap.size w w1) (hr : Fresh w1 w.heap.size w1.heap.size 3 r.A (nums r.xs)) (hl : r.xs.length = r.n) (hn : r.n ≤ 1048576)
    (hown : w2.ownsRow lo 40 1 (.slice (some ⟨g, 0, none⟩) (rs.length + 1) cap) (rs.length + 1) (rowVals rs ++ [r.val])) (hg : (w1.alloc (.cells #[r.val] 40)).grownBy w2 (Value.slice A rs.length c).ownBlock)
    (hat : (Value.slice A rs.length c).ownBlock = some g ∨ g = w1.heap.size + 1) : Heads w2 lo (some ⟨g, 0, none⟩) cap (rs ++ [r]) := by
  obtain ⟨h1, ps, ⟨k1, k2, k3⟩, h3, h4⟩ := h
  have hsz := hb.size
  have hsg : w1.heap.size + 1 ≤ w2.heap.size := by have := hg.size; simpa using this
  have hob : ∀ q, (Value.slice A rs.length c).ownBlock = some q → ∃ a : Addr, A = some a ∧ a.block = q ∧ q < w.heap.size := by
    intro q hq
    cases A with
    | none => simp [Value.ownBlock] at hq
    | some a => exact ⟨a, rfl, by simpa [Value.ownBlock] using hq, (h1.lt q hq).2⟩
  refine ⟨by rw [List.length_append]; show World.ownsRow _ _ _ _ _ _ _; simpa [rowVals] using hown, ps ++ [(w.heap.size, w1.heap.size)], ⟨by simp [k1], ?_, ?_⟩, ?_, ?_⟩
  · intro k r' p' hr' hp'
    rcases Nat.lt_or_ge k rs.length with hk | hk
    · rw [List.getElem?_append_left hk] at hr'
      rw [List.getElem?_append_left (by omega)] at hp'
      obtain ⟨f1, f2⟩ := k2 k r' p' hr' hp'
      have hm := List.mem_of_getElem? hp'
      refine ⟨fresh_grown ((f1.below hb).alloc _) hg fun q hq => ?_, f2⟩
      obtain ⟨a, hA, hq2, -⟩ := hob q hq
      have := h4 a hA p' hm
      omega
    · have hke : k = rs.length := by
        have := (List.getElem?_eq_some_iff.1 hr').1
        simp at this
        omega
      subst hke
      rw [List.getElem?_append_right (Nat.le_refl _)] at hr'
      rw [List.getElem?_append_right (by omega), k1] at hp'
      simp at hr' hp'
      subst hr' hp'
      exact ⟨fresh_grown (hr.alloc _) hg fun q hq => by obtain ⟨a, -, -, hlt⟩ := hob q hq; exact .inl hlt, hl, hn⟩
  · intro i j p p' hij hp hp'
    have hlen : ∀ {i : Nat} {p : Nat × Nat}, (ps ++ [(w.heap.size, w1.heap.size)])[i]? = some p → (i < ps.length ∧ ps[i]? = some p) ∨ (i = ps.length ∧ p = (w.heap.size, w1.heap.size)) := by
      intro i p hp
      rcases Nat.lt_or_ge i ps.length with hi | hi
      · rw [List.getElem?_append_left hi] at hp
        exact .inl ⟨hi, hp⟩
      · have hie : i = ps.length := by
          have := (List.getElem?_eq_some_iff.1 hp).1
          simp at this
          omega
        subst hie
        rw [List.getElem?_append_right (Nat.le_refl _)] at hp
        simp at hp
        exact .inr ⟨rfl, hp.symm⟩
    rcases hlen hp with ⟨hi, hp⟩ | ⟨hi, rfl⟩ <;> rcases hlen hp' with ⟨hj, hp'⟩ | ⟨hj, rfl⟩
    · exact k3 i j p p' hij hp hp'
    · exact .inl (h3 p (List.mem_of_getElem? hp)).2
    · exact .inr (h3 p' (List.mem_of_getElem? hp')).2
    · omega
  · intro p hp
    rcases List.mem_append.1 hp with hp | hp
    · exact ⟨(h3 p hp).1, by have := (h3 p hp).2; omega⟩
    · simp only [List.mem_singleton] at hp
      subst hp
      exact ⟨hlo, by show w1.heap.size ≤ _; omega⟩
  · intro a ha p hp
    obtain rfl : (⟨g, 0, none⟩ : Addr) = a := Option.some.inj ha
    show g < p.1 ∨ p.2 ≤ g
    rcases List.mem_append.1 hp with hp | hp
    · rcases hat with hat | hat
      · obtain ⟨a, hA, hq2, -⟩ := hob g hat
        have := h4 a hA p hp
        omega
      · have := (h3 p hp).2
        omega
    · simp only [List.mem_singleton] at hp
      subst hp
      show g < w.heap.size ∨ w1.heap.size ≤ g
      rcases hat with hat | hat
      · obtain ⟨-, -, -, hlt⟩ := hob g hat
        exact .inl hlt
      · omega
/-- What was made is the call's own, all of it. -/
theorem Heads.free {w : World} {lo c : Nat} {A : Option Addr} {rs : List RowV} (h : Heads w lo A c rs) : FreeGrid w lo w.heap.size A rs := by
  obtain ⟨h1, ps, h2, h3, h4⟩ := h
  refine ⟨ps, h2, h3, ?_⟩
  rcases own_some h1 with ⟨rfl, hn, -⟩ | ⟨g, rfl, -⟩
  · exact .inl (List.length_eq_zero_iff.1 hn)
  · obtain ⟨-, ⟨hv, -⟩ | ⟨g', cap, cur, hv, hb, hh, -, -, -, ht⟩⟩ := h1
    · simp at hv
    · obtain ⟨rfl, -⟩ : g = g' ∧ c = cap := by simpa using hv
      have hlt := (Array.getElem?_eq_some_iff.1 hh).1
      refine .inr ⟨g, 0, rfl, hlt, hb, hlt, fun p hp => h4 _ rfl p hp, fun j u hu => ?_⟩
      rw [Nat.zero_add, (show Whole w g 40 cur from hh).cell j]
      rw [← ht, List.getElem?_take] at hu
      split at hu
      · simpa using hu
      · simp at hu
/-- What a call hands back that makes a list of lists. -/
def RowsPost (ls : List (List Int)) (w : World) (e : Ending) (w' : World) : Prop :=
  ∃ (A : Option Addr) (c : Nat) (rs : List RowV), e = .returned (.slice A rs.length c) ∧ rowNums rs = ls ∧ FreeGrid w' w.heap.size w'.heap.size A rs ∧ Below w.heap.size w w'
end Go.Proofs.Ytkdjdnknhbmliaa

namespace Go.Proofs.Ytkdjdnknhbmliaa
open Go.RowKit

/-- A danger of two of so many things. -/
def IsDg (k : Int) (d : List Int) : Prop := d.length = 2 ∧ 0 ≤ d.getD 0 0 ∧ d.getD 0 0 < d.getD 1 0 ∧ d.getD 1 0 < k
/-- A danger comes before another one. -/
def BefD (a b : List Int) : Prop := a.getD 0 0 < b.getD 0 0 ∨ (a.getD 0 0 = b.getD 0 0 ∧ a.getD 1 0 < b.getD 1 0)
def DgStep (k : Int) (ds : List (List Int)) (j : Nat) : Prop := IsDg k (ds.getD j []) ∧ (j = 0 ∨ BefD (ds.getD (j - 1) []) (ds.getD j []))
def DgTo (k : Int) (ds : List (List Int)) (j : Nat) : Prop := ∀ i, i < j → DgStep k ds i
noncomputable def keepOk (k s : Int) (ds : List (List Int)) : Bool := by
  classical
  exact decide ((0 ≤ k ∧ k ≤ 8 ∧ 0 ≤ s ∧ s ≤ 8) ∧ DgTo k ds ds.length)
theorem keepOk_iff {k s : Int} {ds : List (List Int)} : keepOk k s ds = true ↔ (0 ≤ k ∧ k ≤ 8 ∧ 0 ≤ s ∧ s ≤ 8) ∧ DgTo k ds ds.length := by
  classical
  simp only [keepOk, decide_eq_true_eq]
theorem keepOk_out {k s : Int} {ds : List (List Int)} (h : ¬ (0 ≤ k ∧ k ≤ 8 ∧ 0 ≤ s ∧ s ≤ 8)) : keepOk k s ds = false := by
  cases e : keepOk k s ds
  · rfl
  · exact absurd (keepOk_iff.1 e).1 h
theorem keepOk_no {k s : Int} {ds : List (List Int)} {j : Nat} (hj : j < ds.length) (h : ¬ DgStep k ds j) : keepOk k s ds = false := by
  cases e : keepOk k s ds
  · rfl
  · exact absurd ((keepOk_iff.1 e).2 j hj) h
theorem keepOk_yes {k s : Int} {ds : List (List Int)} {j : Nat} (h : 0 ≤ k ∧ k ≤ 8 ∧ 0 ≤ s ∧ s ≤ 8) (hs : DgTo k ds j) (hj : ds.length ≤ j) : keepOk k s ds = true :=
  keepOk_iff.2 ⟨h, fun i hi => hs i (by omega)⟩
theorem DgTo.start (k : Int) (ds : List (List Int)) : DgTo k ds 0 := fun _ h => absurd h (by omega)
theorem DgTo.next {k : Int} {ds : List (List Int)} {j : Nat} (h : DgTo k ds j) (hs : DgStep k ds j) : DgTo k ds (j + 1) := fun i hi =>
  (Nat.lt_succ_iff_lt_or_eq.1 hi).elim (h i) (fun e => e ▸ hs)
theorem rising_dg {k : Int} {d : List Int} (hl : d.length = 2) : rising d (k - 1) = true ↔ IsDg k d := by
  constructor
  · intro h
    have hs := rising_steps h
    have h0 := hs 0 (by omega)
    have h1 := hs 1 (by omega)
    obtain ⟨a0, a1, -⟩ := h0
    obtain ⟨b0, b1, b2⟩ := h1
    refine ⟨hl, a0, ?_, by omega⟩
    rcases b2 with b2 | b2
    · cases b2
    · exact b2
  · rintro ⟨-, h0, h1, h2⟩
    refine rising_yes (k := 2) (fun j hj => ?_) (by omega)
    have : j = 0 ∨ j = 1 := by omega
    rcases this with rfl | rfl
    · exact ⟨h0, by omega, .inl rfl⟩
    · exact ⟨by omega, by omega, .inr h1⟩
theorem dg_at {k s : Int} {ds : List (List Int)} (h : keepOk k s ds = true) {j : Nat} (hj : j < ds.length) : IsDg k ds[j] := by
  have := ((keepOk_iff.1 h).2 j hj).1
  simpa [List.getD_eq_getElem?_getD, List.getElem?_eq_getElem hj] using this
/-- Both things of a danger are where the keeper is not. -/
def leftBy (bs : List Bool) (t : Bool) (d : List Int) : Bool := (bs.getD (d.getD 0 0).toNat false != t) && (bs.getD (d.getD 1 0).toNat false != t)
/-- The dangers in a bank. -/
def nowOf (bs : List Bool) (t : Bool) (ds : List (List Int)) : List (List Int) := ds.filter (leftBy bs t)
theorem nowOf_len (bs : List Bool) (t : Bool) (ds : List (List Int)) : (nowOf bs t ds).length ≤ ds.length := List.length_filter_le _ _
/-- A keep and a bank of it. -/
noncomputable def asked (k s : Int) (ds : List (List Int)) (bs : List Bool) : Bool := keepOk k s ds && decide ((bs.length : Int) = k)
theorem asked_parts {k s : Int} {ds : List (List Int)} {bs : List Bool} (h : asked k s ds bs = true) : keepOk k s ds = true ∧ (bs.length : Int) = k := by
  simpa [asked] using h
end Go.Proofs.Ytkdjdnknhbmliaa

namespace Go.Proofs.Ytkdjdnknhbmliaa
open Go.RowKit

/-- Does a danger come before another one? -/
noncomputable def befB (a b : List Int) : Bool := by
  classical
  exact decide (BefD a b)
theorem befB_yes {a b : List Int} (h : BefD a b) : befB a b = true := by classical simpa [befB] using h
theorem befB_no {a b : List Int} (h : ¬ BefD a b) : befB a b = false := by classical simpa [befB] using h

/-- The two numbers of a list, as they lie. -/
theorem two_at {w : World} {A : Option Addr} {d : List Int} (h : Holds w A (nums d)) (hl : d.length = 2) : ∃ b o, A = some ⟨b, o, none⟩ ∧ b < w.heap.size ∧ w.cell? ⟨b, o, none⟩ = some (.int .i64 (d.getD 0 0)) ∧ w.cell? ⟨b, o + 1, none⟩ = some (.int .i64 (d.getD 1 0)) := by
  obtain ⟨x, y, rfl⟩ : ∃ x y, d = [x, y] := by
    match d, hl with
    | [x, y], _ => exact ⟨x, y, rfl⟩
  rcases h with h | ⟨b, o, hA, hb, hc⟩
  · cases h
  · exact ⟨b, o, hA, hb, hc 0 _ rfl, hc 1 _ rfl⟩

set_option maxHeartbeats 1600000 in
theorem keBefore_any (A B : Option Addr) (n c m d : Nat) (x y : List Int) (w : World) (hA : Holds w A (nums x)) (hB : Holds w B (nums y)) (hx : x.length = 2) (hy : y.length = 2) (hn : n = 2) (hm : m = 2) :
    Calls Try.prog 105 #[.slice A n c, .slice B m d] w fun e w' => e = .returned (.bool (befB x y)) ∧ ∃ k, w' = w.drewN k := by
  subst hn hm
  obtain ⟨b, o, rfl, hb, a0, a1⟩ := two_at hA hx
  obtain ⟨b', o', rfl, hb', c0, c1⟩ := two_at hB hy
  have HY : Hid (BefD x y ↔ (x.getD 0 0 < y.getD 0 0 ∨ (x.getD 0 0 = y.getD 0 0 ∧ x.getD 1 0 < y.getD 1 0))) := Iff.rfl
  obtain ⟨p, hp⟩ : ∃ p : Prop, p = BefD x y := ⟨_, rfl⟩
  obtain ⟨q, hq⟩ : ∃ q : Bool, q = befB x y := ⟨_, rfl⟩
  have HYES : Hid (BefD x y → q = true) := fun h => by rw [hq]; exact befB_yes h
  have HNO : Hid (¬ BefD x y → q = false) := fun h => by rw [hq]; exact befB_no h
  rw [← hq]
  clear hp hq hA hB hx hy
  generalize x.getD 0 0 = x0 at *
  generalize y.getD 0 0 = y0 at *
  generalize x.getD 1 0 = x1 at *
  generalize y.getD 1 0 = y1 at *
  by_cases h1 : x0 < y0
  · have HQ : Hid (q = true) := HYES.out (HY.out.2 (by omega))
    have d1 : decide (x0 < y0) = true := by simp [h1]
    clear HYES HNO HY
    go_enter Try.func105, Try.ntmps105
    go_wp2
    go_quiet (fail)
    go_wp2
    go_ret
    exact ⟨ret_of (by rw [HQ.out]; first | rfl | simp), _, rfl⟩
  · by_cases h2 : x0 = y0
    · by_cases h3 : x1 < y1
      · have HQ : Hid (q = true) := HYES.out (HY.out.2 (by omega))
        have d1 : decide (x0 < y0) = false := by simp; omega
        have d2 : (x0 == y0) = true := by simp [h2]
        have d3 : decide (x1 < y1) = true := by simp [h3]
        clear HYES HNO HY
        go_enter Try.func105, Try.ntmps105
        go_wp2
        go_quiet (fail)
        go_wp2
        go_ret
        exact ⟨ret_of (by rw [HQ.out]; first | rfl | simp), _, rfl⟩
      · have HQ : Hid (q = false) := HNO.out (fun h => by have := HY.out.1 h; omega)
        have d1 : decide (x0 < y0) = false := by simp; omega
        have d2 : (x0 == y0) = true := by simp [h2]
        have d3 : decide (x1 < y1) = false := by simp; omega
        clear HYES HNO HY
        go_enter Try.func105, Try.ntmps105
        go_wp2
        go_quiet (fail)
        go_wp2
        go_ret
        exact ⟨ret_of (by rw [HQ.out]; first | rfl | simp), _, rfl⟩
    · have HQ : Hid (q = false) := HNO.out (fun h => by have := HY.out.1 h; omega)
      have d1 : decide (x0 < y0) = false := by simp; omega
      have d2 : (x0 == y0) = false := by simp [h2]
      clear HYES HNO HY
      go_enter Try.func105, Try.ntmps105
      go_wp2
      go_quiet (fail)
      go_wp2
      go_ret
      exact ⟨ret_of (by rw [HQ.out]; first | rfl | simp), _, rfl⟩

/-- A row of a grid, told at its place. -/
theorem grid_row {w : World} {A : Option Addr} {rs : List RowV} (h : Grid w A rs) {k : Nat} (hk : k < rs.length) : ∃ b o, A = some ⟨b, o, none⟩ ∧ b < w.heap.size ∧ w.cell? ⟨b, o + k, none⟩ = some (.slice rs[k].A rs[k].n rs[k].c) ∧ Holds w rs[k].A (nums rs[k].xs) ∧ rs[k].xs.length = rs[k].n ∧ rs[k].n ≤ 9223372036854775807 := by
  obtain ⟨b, o, rfl, hb, hc⟩ := h.1.look (k := k) (by rw [rowVals_len]; exact hk)
  have hok := h.2 rs[k] (List.getElem_mem hk)
  refine ⟨b, o, rfl, hb, ?_, hok.1, hok.2.1, hok.2.2⟩
  rw [hc]
  simp [rowVals, RowV.val]
theorem rows_at (rs : List RowV) {k : Nat} (hk : k < rs.length) : (rowNums rs).getD k [] = rs[k].xs := by
  simp [rowNums, hk]

set_option maxHeartbeats 3200000 in
set_option maxRecDepth 100000 in
theorem keGood_any (k s : Int) (A : Option Addr) (n c : Nat) (rs : List RowV) (w : World) (hA : Grid w A rs) (hx : rs.length = n) (hn : n ≤ 1048576) :
    Calls Try.prog 84 #[.agg #[.int .i64 k, .slice A n c, .int .i64 s]] w fun e w' => e = .returned (.bool (keepOk k s (rowNums rs))) ∧ Below w.heap.size w w' := by
  subst hx
  have HLS := Lib.hid (rowNums_len rs)
  have h0 := Lib.hid (Whole.fresh w 54 #[.int .i64 k, .slice A rs.length c, .int .i64 s])
  have hb1 := Lib.hid (below1 w (.cells #[.int .i64 k, .slice A rs.length c, .int .i64 s] 54))
  have HG := Lib.hid hA
  obtain ⟨f0, f1, f2⟩ := h0.out.cells3
  obtain ⟨q, hq⟩ : ∃ q : Bool, q = keepOk k s (rowNums rs) := ⟨_, rfl⟩
  rw [← hq]
  have HQ := Lib.hid hq
  clear hq hA
  cases hk : within k 0 8
  · have HQ2 : Hid (q = false) := by
      show _ = _
      rw [HQ.out]
      exact keepOk_out fun h => by rw [within_yes h.1 h.2.1] at hk; cases hk
    have HK := Lib.hid hk
    clear HQ hk
    go_enter Try.func84, Try.ntmps84
    go_wp2_with (go_at_call 81; refine (l1In_any _ _ _ _).mono ?_; rintro e w' ⟨rfl, rfl⟩; rw [HK.out])
    go_ret
    exact ⟨ret_of (by rw [HQ2.out]; rfl), hb1.out⟩
  · cases hs : within s 0 8
    · have HQ2 : Hid (q = false) := by
        show _ = _
        rw [HQ.out]
        exact keepOk_out fun h => by rw [within_yes h.2.2.1 h.2.2.2] at hs; cases hs
      have HK := Lib.hid hk
      have HS := Lib.hid hs
      clear HQ hk hs
      go_enter Try.func84, Try.ntmps84
      go_wp2_with (go_at_call 81; refine (l1In_any _ _ _ _).mono ?_; rintro e w' ⟨rfl, rfl⟩; first | rw [HK.out] | rw [HS.out])
      go_ret
      exact ⟨ret_of (by rw [HQ2.out]; rfl), hb1.out⟩
    · have hk2 := within_iff.1 hk
      have hs2 := within_iff.1 hs
      have HK := Lib.hid hk
      have HS := Lib.hid hs
      have HKS : Hid (0 ≤ k ∧ k ≤ 8 ∧ 0 ≤ s ∧ s ≤ 8) := ⟨hk2.1, hk2.2, hs2.1, hs2.2⟩
      have hkw : IntKind.i64.wrap (k - 1) = k - 1 := IntWalk.i64_in _ (by omega)
      clear hk hs
      go_enter Try.func84, Try.ntmps84
      go_wp2_with (go_at_call 81; refine (l1In_any _ _ _ _).mono ?_; rintro e w' ⟨rfl, rfl⟩; first | rw [HK.out] | rw [HS.out])
      go_loopw [18] (fun i wr => ∃ j : Nat, j ≤ rs.length ∧ i = .int .i64 j ∧ DgTo k (rowNums rs) j ∧ Whole wr w.heap.size 54 #[.int .i64 k, .slice A rs.length c, .int .i64 s] ∧ Below w.heap.size w wr) (fun i _ => rs.length - (intOf i).toNat)
      case atStart => exact ⟨0, Nat.zero_le _, rfl, DgTo.start _ _, h0.out, hb1.out⟩
      case round =>
        clear f0 f1 f2 h0 hb1
        obtain ⟨j, hj, rfl, hdt, h0, hb⟩ := hrel
        by_cases hlt : j < rs.length
        · have hg := HG.out.below hb
          obtain ⟨b, o, rfl, hbl, hcell, hrow, hrl, hrn⟩ := grid_row hg hlt
          have HAT := Lib.hid (rows_at rs hlt)
          obtain ⟨f0, f1, f2⟩ := h0.cells3
          obtain ⟨R, hR⟩ : ∃ R, R = rs[j] := ⟨_, rfl⟩
          rw [← hR] at hcell hrow hrl hrn HAT
          have HD := Lib.hid hdt
          have H0 := Lib.hid h0
          have HB := Lib.hid hb
          have HRW := Lib.hid hrow
          have HJ : Hid (j < (rowNums rs).length) := by show _ < _; rw [HLS.out]; exact hlt
          have HRL := Lib.hid hrl
          have HRN := Lib.hid hrn
          clear hg hdt h0 hb hrow hR hrl
          obtain ⟨rA, rn, rc, rxs⟩ := R
          replace hcell : World.cell? wr ⟨b, o + j, none⟩ = some (.slice rA rn rc) := hcell
          replace hrn : rn ≤ 9223372036854775807 := hrn
          have HRL2 : Hid (rxs.length = rn) := HRL.out
          have HRW2 : Hid (Holds wr rA (nums rxs)) := HRW.out
          have HAT2 : Hid ((rowNums rs).getD j [] = rxs) := HAT.out
          clear HRL HRW HAT HRN
          by_cases h2 : rn = 2
          · subst h2
            have hne : ((2 : Int) != 2) = false := by decide
            cases hr : rising rxs (k - 1)
            · have HN : Hid (q = false) := by
                show _ = _
                rw [HQ.out]
                refine keepOk_no HJ.out fun h => ?_
                have h1 := h.1
                rw [HAT2.out] at h1
                rw [(rising_dg HRL2.out).2 h1] at hr
                cases hr
              have HR := Lib.hid hr
              clear hr HQ
              go_wp2_with (go_at_call 120; refine (l1Rising_any _ _ _ rxs (k - 1) _ HRW2.out HRL2.out (by omega)).mono ?_; rintro e w' ⟨rfl, rfl⟩; rw [HR.out])
              go_ret
              exact ⟨ret_of (by rw [HN.out]; rfl), HB.out⟩
            · have HDG := Lib.hid ((rising_dg HRL2.out).1 hr)
              have HR := Lib.hid hr
              clear hr
              by_cases hj0 : j = 0
              · subst hj0
                have HST : Hid (DgTo k (rowNums rs) (0 + 1)) := HD.out.next ⟨by rw [HAT2.out]; exact HDG.out, .inl rfl⟩
                simp only [Nat.add_zero] at hcell
                go_wp2_with (go_at_call 120; refine (l1Rising_any _ _ _ rxs (k - 1) _ HRW2.out HRL2.out (by omega)).mono ?_; rintro e w' ⟨rfl, rfl⟩; rw [HR.out])
                go_roundw
                case rel => exact ⟨1, by omega, by go_num, HST.out, H0.out, HB.out⟩
                case measure => simp [intOf]; omega
              · have hlt1 : j - 1 < rs.length := by omega
                obtain ⟨b', o', hA', hbl', hcell', hrow', hrl', hrn'⟩ := grid_row (HG.out.below HB.out) hlt1
                simp only [Option.some.injEq, Addr.mk.injEq] at hA'
                obtain ⟨rfl, rfl, -⟩ := hA'
                have HDG' : Hid (IsDg k rs[j - 1].xs) := by
                  have h := (HD.out (j - 1) (by omega)).1
                  rw [rows_at rs hlt1] at h
                  exact h
                have HAT' := Lib.hid (rows_at rs hlt1)
                obtain ⟨R', hR'⟩ : ∃ R, R = rs[j - 1] := ⟨_, rfl⟩
                rw [← hR'] at hcell' hrow' hrl' hrn' HDG' HAT'
                obtain ⟨rA', rn', rc', rxs'⟩ := R'
                replace hcell' : World.cell? wr ⟨b, o + (j - 1), none⟩ = some (.slice rA' rn' rc') := hcell'
                have HRL' : Hid (rxs'.length = 2) := HDG'.out.1
                obtain rfl : rn' = 2 := by have h1 : rxs'.length = rn' := hrl'; have := HRL'.out; omega
                have HRW' : Hid (Holds wr rA' (nums rxs')) := hrow'
                have HAT3 : Hid ((rowNums rs).getD (j - 1) [] = rxs') := HAT'.out
                clear hrow' hrl' hrn' hR' HDG' HAT'
                have hkp : decide ((0 : Int) < (j : Int)) = true := by simp; omega
                have hkp2 : (0 : Int) < (j : Int) := by omega
                have htn : ((j : Int) - 1).toNat = j - 1 := by omega
                have hjw : IntKind.i64.wrap ((j : Int) - 1) = (j : Int) - 1 := IntWalk.i64_in _ (by omega)
                have hji : (0 : Int) ≤ (j : Int) - 1 := by omega
                have hjl : (j : Int) - 1 < (rs.length : Int) := by omega
                cases hbf : befB rxs' rxs
                · have HN : Hid (q = false) := by
                    show _ = _
                    rw [HQ.out]
                    refine keepOk_no HJ.out fun h => ?_
                    rcases h.2 with h1 | h1
                    · exact hj0 h1
                    · rw [HAT2.out, HAT3.out] at h1
                      rw [befB_yes h1] at hbf
                      cases hbf
                  have HF := Lib.hid hbf
                  clear hbf HQ
                  go_wp2_with (first | (go_at_call 120; refine (l1Rising_any _ _ _ rxs (k - 1) _ HRW2.out HRL2.out (by omega)).mono ?_; rintro e w' ⟨rfl, rfl⟩; rw [HR.out]) | (go_at_call 105; refine (keBefore_any _ _ _ _ _ _ rxs' rxs _ HRW'.out HRW2.out HRL'.out HRL2.out rfl rfl).mono ?_; rintro e w' ⟨rfl, kk, rfl⟩; rw [HF.out]))
                  go_ret
                  exact ⟨ret_of (by rw [HN.out]; rfl), below_draws HB.out kk⟩
                · have HST : Hid (DgTo k (rowNums rs) (j + 1)) := HD.out.next ⟨by rw [HAT2.out]; exact HDG.out, .inr (by
                    rw [HAT2.out, HAT3.out]
                    exact Classical.byContradiction fun h => by rw [befB_no h] at hbf; cases hbf)⟩
                  have HF := Lib.hid hbf
                  clear hbf
                  go_wp2_with (first | (go_at_call 120; refine (l1Rising_any _ _ _ rxs (k - 1) _ HRW2.out HRL2.out (by omega)).mono ?_; rintro e w' ⟨rfl, rfl⟩; rw [HR.out]) | (go_at_call 105; refine (keBefore_any _ _ _ _ _ _ rxs' rxs _ HRW'.out HRW2.out HRL'.out HRL2.out rfl rfl).mono ?_; rintro e w' ⟨rfl, kk, rfl⟩; rw [HF.out]))
                  go_roundw
                  case rel => exact ⟨j + 1, by omega, by go_num, HST.out, H0.out.below (below_draws (Below.refl _ _) kk), below_draws HB.out kk⟩
                  case measure => simp [intOf]; omega
          · have hne : ((rn : Int) != 2) = true := by simp; omega
            have HN : Hid (q = false) := by
              show _ = _
              rw [HQ.out]
              refine keepOk_no HJ.out fun h => ?_
              have h1 := h.1.1
              rw [HAT2.out, HRL2.out] at h1
              exact h2 h1
            have h2' := Lib.hid h2
            clear HQ h2
            go_wp2
            go_ret
            exact ⟨ret_of (by rw [HN.out]; rfl), HB.out⟩
        · have HN : Hid (q = true) := by
            show _ = _
            rw [HQ.out]
            exact keepOk_yes HKS.out hdt (by rw [HLS.out]; omega)
          clear HQ
          go_wp2
          go_ret
          exact ⟨ret_of (by rw [HN.out]; rfl), hb⟩

set_option maxHeartbeats 800000 in
theorem specIsKeep_any (k s : Int) (A : Option Addr) (n c : Nat) (rs : List RowV) (w : World) (hA : Grid w A rs) (hx : rs.length = n) (hn : n ≤ 1048576) :
    Calls Try.prog 35 #[.agg #[.int .i64 k, .slice A n c, .int .i64 s]] w fun e w' => e = .returned (.bool (keepOk k s (rowNums rs))) ∧ Below w.heap.size w w' := by
  have HX := Lib.hid hx
  clear hx
  have hb1 := below1 w (.cells #[.int .i64 k, .slice A n c, .int .i64 s] 54)
  go_enter Try.func35, Try.ntmps35
  go_wp2_with fail
  refine (keGood_any k s A n c rs _ (by exact hA.below hb1) HX.out hn).mono ?_
  rintro e w1 ⟨rfl, hb⟩
  have ht := below_then hb1 hb (by simp)
  go_wp2
  go_ret
  exact ⟨rfl, ht⟩
end Go.Proofs.Ytkdjdnknhbmliaa

namespace Go.Proofs.Ytkdjdnknhbmliaa
open Go.RowKit

set_option maxHeartbeats 400000 in
theorem isNaNk_any (x : Int) (w : World) : Calls Try.prog 138 #[.int .i64 x] w fun e w' => e = .returned (.bool false) ∧ w = w' := by
  go_enter Try.func138, Try.ntmps138
  go_wp2
  go_ret
  exact ⟨by simp, rfl⟩
set_option maxHeartbeats 800000 in
theorem comparek_any (x y : Int) (w : World) : Calls Try.prog 125 #[.int .i64 x, .int .i64 y] w fun e w' => e = .returned (.int .i64 (Go.Lib.compareInt x y)) ∧ w = w' := by
  by_cases h : x < y
  · have HC : Hid (Go.Lib.compareInt x y = -1) := if_pos h
    go_enter Try.func125, Try.ntmps125
    go_wp2_with (go_at_call 138; refine (isNaNk_any _ _).mono ?_; rintro e w' ⟨rfl, rfl⟩)
    go_ret
    exact ⟨ret_of (by rw [HC.out]; rfl), rfl⟩
  · by_cases h2 : y < x
    · have HC : Hid (Go.Lib.compareInt x y = 1) := by show _ = _; rw [Go.Lib.compareInt, if_neg h, if_pos h2]
      go_enter Try.func125, Try.ntmps125
      go_wp2_with (go_at_call 138; refine (isNaNk_any _ _).mono ?_; rintro e w' ⟨rfl, rfl⟩)
      go_ret
      exact ⟨ret_of (by rw [HC.out]; rfl), rfl⟩
    · have HC : Hid (Go.Lib.compareInt x y = 0) := by show _ = _; rw [Go.Lib.compareInt, if_neg h, if_neg h2]
      go_enter Try.func125, Try.ntmps125
      go_wp2_with (go_at_call 138; refine (isNaNk_any _ _).mono ?_; rintro e w' ⟨rfl, rfl⟩)
      go_ret
      exact ⟨ret_of (by rw [HC.out]; rfl), rfl⟩

/-- Is a list a danger? -/
noncomputable def dgB (k : Int) (d : List Int) : Bool := by
  classical
  exact decide (IsDg k d)
theorem dgB_yes {k : Int} {d : List Int} (h : IsDg k d) : dgB k d = true := by classical simpa [dgB] using h
theorem dgB_no {k : Int} {d : List Int} (h : ¬ IsDg k d) : dgB k d = false := by classical simpa [dgB] using h

set_option maxHeartbeats 1600000 in
theorem isDanger_any (A : Option Addr) (n c : Nat) (d : List Int) (k : Int) (w : World) (hA : Holds w A (nums d)) (hx : d.length = n) (hn : n ≤ 9223372036854775807) :
    Calls Try.prog 85 #[.slice A n c, .int .i64 k] w fun e w' => e = .returned (.bool (dgB k d)) ∧ ∃ j, w' = w.drewN j := by
  by_cases h2 : n = 2
  · subst h2
    obtain ⟨b, o, rfl, hb, a0, a1⟩ := two_at hA hx
    have HY : Hid (IsDg k d ↔ (0 ≤ d.getD 0 0 ∧ d.getD 0 0 < d.getD 1 0 ∧ d.getD 1 0 < k)) := ⟨fun h => h.2, fun h => ⟨hx, h⟩⟩
    obtain ⟨q, hq⟩ : ∃ q : Bool, q = dgB k d := ⟨_, rfl⟩
    have HYES : Hid (IsDg k d → q = true) := fun h => by rw [hq]; exact dgB_yes h
    have HNO : Hid (¬ IsDg k d → q = false) := fun h => by rw [hq]; exact dgB_no h
    rw [← hq]
    clear hq hA hx
    generalize d.getD 0 0 = x0 at *
    generalize d.getD 1 0 = x1 at *
    have hl : (((2 : Nat) : Int) == 2) = true := rfl
    by_cases h0 : 0 ≤ x0
    · by_cases h1 : x0 < x1
      · by_cases h3 : x1 < k
        · have HQ : Hid (q = true) := HYES.out (HY.out.2 (by omega))
          have d0 : decide (0 ≤ x0) = true := by simp [h0]
          have d1 : decide (x0 < x1) = true := by simp [h1]
          have d3 : decide (x1 < k) = true := by simp [h3]
          clear HYES HNO HY
          go_enter Try.func85, Try.ntmps85
          go_wp2
          go_quiet (fail)
          go_wp2
          go_ret
          exact ⟨ret_of (by rw [HQ.out]; first | rfl | simp), _, rfl⟩
        · have HQ : Hid (q = false) := HNO.out (fun h => by have := HY.out.1 h; omega)
          have d0 : decide (0 ≤ x0) = true := by simp [h0]
          have d1 : decide (x0 < x1) = true := by simp [h1]
          have d3 : decide (x1 < k) = false := by simp; omega
          clear HYES HNO HY
          go_enter Try.func85, Try.ntmps85
          go_wp2
          go_quiet (fail)
          go_wp2
          go_ret
          exact ⟨ret_of (by rw [HQ.out]; first | rfl | simp), _, rfl⟩
      · have HQ : Hid (q = false) := HNO.out (fun h => by have := HY.out.1 h; omega)
        have d0 : decide (0 ≤ x0) = true := by simp [h0]
        have d1 : decide (x0 < x1) = false := by simp; omega
        clear HYES HNO HY
        go_enter Try.func85, Try.ntmps85
        go_wp2
        go_quiet (fail)
        go_wp2
        go_ret
        exact ⟨ret_of (by rw [HQ.out]; first | rfl | simp), _, rfl⟩
    · have HQ : Hid (q = false) := HNO.out (fun h => by have := HY.out.1 h; omega)
      have d0 : decide (0 ≤ x0) = false := by simp; omega
      clear HYES HNO HY
      go_enter Try.func85, Try.ntmps85
      go_wp2
      go_quiet (fail)
      go_wp2
      go_ret
      exact ⟨ret_of (by rw [HQ.out]; first | rfl | simp), _, rfl⟩
  · have HQ : Hid (dgB k d = false) := dgB_no fun h => h2 (by rw [← hx]; exact h.1)
    have hl : ((n : Int) == 2) = false := by simp; omega
    clear hA hx h2
    go_enter Try.func85, Try.ntmps85
    go_wp2
    go_quiet (fail)
    go_wp2
    go_ret
    exact ⟨ret_of (by rw [HQ.out]; first | rfl | simp), _, rfl⟩

instance befDec (a b : List Int) : Decidable (BefD a b) := by unfold BefD; infer_instance
/-- What slices.Compare tells of a list and a danger. -/
noncomputable def cmpD (a b : List Int) : Int := if a = [] then -1 else if BefD a b then -1 else if BefD b a then 1 else 0
theorem cmpD_neg {a b : List Int} (h : a = [] ∨ BefD a b) : cmpD a b = -1 := by
  unfold cmpD
  rcases h with h | h
  · rw [if_pos h]
  · by_cases ha : a = []
    · rw [if_pos ha]
    · rw [if_neg ha, if_pos h]
theorem cmpD_pos {a b : List Int} (h : a ≠ []) (h1 : ¬ BefD a b) : 0 ≤ cmpD a b := by
  unfold cmpD
  rw [if_neg h, if_neg h1]
  split <;> omega
theorem cmpD_0 {a b : List Int} (h : a ≠ []) (h1 : a.getD 0 0 ≠ b.getD 0 0) : cmpD a b = Go.Lib.compareInt (a.getD 0 0) (b.getD 0 0) := by
  unfold cmpD Go.Lib.compareInt BefD
  rw [if_neg h]
  repeat' split
  all_goals omega
theorem cmpD_1 {a b : List Int} (h : a ≠ []) (h1 : a.getD 0 0 = b.getD 0 0) : cmpD a b = Go.Lib.compareInt (a.getD 1 0) (b.getD 1 0) := by
  unfold cmpD Go.Lib.compareInt BefD
  rw [if_neg h]
  repeat' split
  all_goals omega

set_option maxHeartbeats 3200000 in
theorem compareD_any (A B : Option Addr) (n c m d : Nat) (x y : List Int) (w : World) (hA : Holds w A (nums x)) (hB : Holds w B (nums y)) (hx : x.length = n) (hn : x = [] ∨ x.length = 2) (hy : y.length = 2) (hm : m = 2) :
    Calls Try.prog 86 #[.slice A n c, .slice B m d] w fun e w' => e = .returned (.int .i64 (cmpD x y)) ∧ w = w' := by
  subst hm
  obtain ⟨b', o', rfl, hb', c0, c1⟩ := two_at hB hy
  rcases hn with rfl | hl
  · obtain rfl : n = 0 := by simpa using hx.symm
    have HQ : Hid (cmpD [] y = -1) := cmpD_neg (.inl rfl)
    clear hA hB hx hy
    go_enter Try.func86, Try.ntmps86
    go_wp2
    go_loop [11] (fun i => i = .int .i64 0) (fun _ => 0)
    case atStart => rfl
    case round =>
      subst hrel
      go_wp2
      go_ret
      exact ⟨ret_of (by rw [HQ.out]; rfl), rfl⟩
  · obtain rfl : n = 2 := by omega
    have hne : x ≠ [] := by intro h; rw [h] at hl; cases hl
    obtain ⟨b, o, rfl, hb, a0, a1⟩ := two_at hA hl
    have H0 : Hid (x.getD 0 0 ≠ y.getD 0 0 → cmpD x y = Go.Lib.compareInt (x.getD 0 0) (y.getD 0 0)) := cmpD_0 hne
    have H1 : Hid (x.getD 0 0 = y.getD 0 0 → cmpD x y = Go.Lib.compareInt (x.getD 1 0) (y.getD 1 0)) := cmpD_1 hne
    clear hA hB hx hy hl hne
    generalize cmpD x y = q at *
    generalize x.getD 0 0 = x0 at *
    generalize y.getD 0 0 = y0 at *
    generalize x.getD 1 0 = x1 at *
    generalize y.getD 1 0 = y1 at *
    go_enter Try.func86, Try.ntmps86
    go_wp2
    go_loop [11] (fun i => ∃ j : Nat, j ≤ 2 ∧ i = .int .i64 j ∧ (0 < j → x0 = y0) ∧ (1 < j → x1 = y1)) (fun i => 2 - (intOf i).toNat)
    case atStart => exact ⟨0, by omega, rfl, fun h => by omega, fun h => by omega⟩
    case round =>
      obtain ⟨j, hj, rfl, e0, e1⟩ := hrel
      have hjc : j = 0 ∨ j = 1 ∨ j = 2 := by omega
      rcases hjc with rfl | rfl | rfl
      · clear e0 e1
        by_cases he : x0 = y0
        · have HC : Hid (Go.Lib.compareInt x0 y0 = 0) := by show _ = _; unfold Go.Lib.compareInt; rw [if_neg (by omega), if_neg (by omega)]
          have HE := Lib.hid he
          clear he
          go_wp2_with (go_at_call 125; refine (comparek_any _ _ _).mono ?_; rintro e w' ⟨rfl, rfl⟩; rw [HC.out])
          go_round
          case rel => exact ⟨1, by omega, rfl, fun _ => HE.out, fun h => by omega⟩
          case measure => simp [intOf]
        · have HC : Hid ((Go.Lib.compareInt x0 y0 != 0) = true) := by show _ = _; unfold Go.Lib.compareInt; by_cases h1 : x0 < y0 <;> by_cases h2 : y0 < x0 <;> simp [h1, h2]; omega
          have HQ : Hid (q = Go.Lib.compareInt x0 y0) := H0.out he
          clear he
          have hc := HC.out
          go_wp2_with (go_at_call 125; refine (comparek_any _ _ _).mono ?_; rintro e w' ⟨rfl, rfl⟩)
          go_ret
          exact ⟨ret_of (by rw [HQ.out]; rfl), rfl⟩
      · have HE := Lib.hid (e0 (by omega))
        clear e0 e1
        by_cases he : x1 = y1
        · have HC : Hid (Go.Lib.compareInt x1 y1 = 0) := by show _ = _; unfold Go.Lib.compareInt; rw [if_neg (by omega), if_neg (by omega)]
          have HE1 := Lib.hid he
          clear he
          go_wp2_with (go_at_call 125; refine (comparek_any _ _ _).mono ?_; rintro e w' ⟨rfl, rfl⟩; rw [HC.out])
          go_round
          case rel => exact ⟨2, by omega, rfl, fun _ => HE.out, fun _ => HE1.out⟩
          case measure => simp [intOf]
        · have HC : Hid ((Go.Lib.compareInt x1 y1 != 0) = true) := by show _ = _; unfold Go.Lib.compareInt; by_cases h1 : x1 < y1 <;> by_cases h2 : y1 < x1 <;> simp [h1, h2]; omega
          have HQ : Hid (q = Go.Lib.compareInt x1 y1) := H1.out HE.out
          clear he
          have hc := HC.out
          go_wp2_with (go_at_call 125; refine (comparek_any _ _ _).mono ?_; rintro e w' ⟨rfl, rfl⟩)
          go_ret
          exact ⟨ret_of (by rw [HQ.out]; rfl), rfl⟩
      · have HQ : Hid (q = 0) := by
          show _ = _
          rw [H1.out (e0 (by omega)), e1 (by omega)]
          unfold Go.Lib.compareInt
          rw [if_neg (by omega), if_neg (by omega)]
        clear e0 e1
        go_wp2
        go_ret
        exact ⟨ret_of (by rw [HQ.out]; rfl), rfl⟩

set_option maxHeartbeats 3200000 in
set_option maxRecDepth 100000 in
theorem isKeep_any (k s : Int) (A : Option Addr) (n c : Nat) (rs : List RowV) (w : World) (hA : Grid w A rs) (hx : rs.length = n) (hn : n ≤ 1048576) :
    Calls Try.prog 37 #[.agg #[.int .i64 k, .slice A n c, .int .i64 s]] w fun e w' => e = .returned (.bool (keepOk k s (rowNums rs))) ∧ Below w.heap.size w w' := by
  subst hx
  have HLS := Lib.hid (rowNums_len rs)
  have h0 := Lib.hid (Whole.fresh w 54 #[.int .i64 k, .slice A rs.length c, .int .i64 s])
  have hb1 := Lib.hid (below1 w (.cells #[.int .i64 k, .slice A rs.length c, .int .i64 s] 54))
  have HG := Lib.hid hA
  obtain ⟨f0, f1, f2⟩ := h0.out.cells3
  obtain ⟨q, hq⟩ : ∃ q : Bool, q = keepOk k s (rowNums rs) := ⟨_, rfl⟩
  rw [← hq]
  have HQ := Lib.hid hq
  clear hq hA
  by_cases hok : 0 ≤ k ∧ k ≤ 8 ∧ 0 ≤ s ∧ s ≤ 8
  rotate_left
  · have HQ2 : Hid (q = false) := by
      show _ = _
      rw [HQ.out]
      exact keepOk_out hok
    clear HQ
    obtain ⟨g5, g6⟩ | ⟨g5, g6⟩ | ⟨g5, g6⟩ : (k ≤ s ∧ k < s) ∨ (k ≤ s ∧ ¬ k < s) ∨ (¬ k ≤ s ∧ ¬ k < s) := by omega
    all_goals (by_cases g1 : k < 0 <;> by_cases g2 : s < 0 <;> by_cases g3 : 8 < k <;> by_cases g4 : 8 < s)
    all_goals first
      | (exfalso; omega)
      | (clear hok; go_enter Try.func37, Try.ntmps37; go_wp2; go_ret; exact ⟨ret_of (by rw [HQ2.out]; rfl), hb1.out⟩)
  · have HKS := Lib.hid hok
    have g1 : ¬ k < 0 := by omega
    have g2 : ¬ s < 0 := by omega
    have g3 : ¬ 8 < k := by omega
    have g4 : ¬ 8 < s := by omega
    have HK8 : Hid (k ≤ 8) := hok.2.1
    clear hok
    obtain ⟨g5, g6⟩ | ⟨g5, g6⟩ | ⟨g5, g6⟩ : (k ≤ s ∧ k < s) ∨ (k ≤ s ∧ ¬ k < s) ∨ (¬ k ≤ s ∧ ¬ k < s) := by omega
    all_goals
      go_enter Try.func37, Try.ntmps37
      go_wp2
      clear g1 g2 g3 g4 g5 g6
      go_loopw [3, 23] (fun v i wr => ∃ j : Nat, j ≤ rs.length ∧ i = .int .i64 j ∧ (∃ (P : Option Addr) (pn pc : Nat) (pxs : List Int), v = .slice P pn pc ∧ Holds w P (nums pxs) ∧ pxs.length = pn ∧ ((j = 0 ∧ pxs = []) ∨ (0 < j ∧ pxs = (rowNums rs).getD (j - 1) []))) ∧ DgTo k (rowNums rs) j ∧ Whole wr w.heap.size 54 #[.int .i64 k, .slice A rs.length c, .int .i64 s] ∧ Below w.heap.size w wr) (fun _ i _ => rs.length - (intOf i).toNat)
      case atStart => exact ⟨0, Nat.zero_le _, rfl, ⟨none, 0, 0, [], rfl, .inl rfl, rfl, .inl ⟨rfl, rfl⟩⟩, DgTo.start _ _, h0.out, hb1.out⟩
      case round =>
        clear f0 f1 f2 h0 hb1
        obtain ⟨j, hj, rfl, ⟨P, pn, pc, pxs, rfl, hP, hpl, hpx⟩, hdt, h0, hb⟩ := hrel
        by_cases hlt : j < rs.length
        · obtain ⟨b, o, rfl, hbl, hcell, hrow, hrl, hrn⟩ := grid_row HG.out hlt
          replace hcell := (hb.cell (p := ⟨b, o + j, none⟩) hbl).trans hcell
          have HAT := Lib.hid (rows_at rs hlt)
          obtain ⟨f0, f1, f2⟩ := h0.cells3
          obtain ⟨R, hR⟩ : ∃ R, R = rs[j] := ⟨_, rfl⟩
          rw [← hR] at hcell hrow hrl hrn HAT
          have HD := Lib.hid hdt
          have H0 := Lib.hid h0
          have HB := Lib.hid hb
          have HJ : Hid (j < (rowNums rs).length) := by show _ < _; rw [HLS.out]; exact hlt
          obtain ⟨rA, rn, rc, rxs⟩ := R
          replace hcell : World.cell? wr ⟨b, o + j, none⟩ = some (.slice rA rn rc) := hcell
          replace hrn : rn ≤ 9223372036854775807 := hrn
          have HRL2 : Hid (rxs.length = rn) := hrl
          have HRW0 : Hid (Holds w rA (nums rxs)) := hrow
          have HRW2 : Hid (Holds wr rA (nums rxs)) := HRW0.out.below hb
          have HAT2 : Hid ((rowNums rs).getD j [] = rxs) := HAT.out
          have HP : Hid (Holds wr P (nums pxs)) := hP.below hb
          have HPL := Lib.hid hpl
          have HPX := Lib.hid hpx
          clear HAT hrow hrl hR hdt h0 hb hP hpl hpx
          cases hr : dgB k rxs
          · have HN : Hid (q = false) := by
              show _ = _
              rw [HQ.out]
              refine keepOk_no HJ.out fun h => ?_
              have h1 := h.1
              rw [HAT2.out] at h1
              rw [dgB_yes h1] at hr
              cases hr
            have HR := Lib.hid hr
            clear hr HQ
            go_wp2_with (go_at_call 85; refine (isDanger_any _ _ _ rxs k _ HRW2.out HRL2.out hrn).mono ?_; rintro e w' ⟨rfl, jj, rfl⟩; rw [HR.out])
            go_ret
            exact ⟨ret_of (by rw [HN.out]; rfl), below_draws HB.out jj⟩
          · have HDG : Hid (IsDg k rxs) := Classical.byContradiction fun h => by rw [dgB_no h] at hr; cases hr
            have HR := Lib.hid hr
            obtain rfl : rn = 2 := by have := HDG.out.1; have := HRL2.out; omega
            have HP2 : Hid (pxs = [] ∨ pxs.length = 2) := by
              rcases HPX.out with ⟨-, h⟩ | ⟨h1, h2⟩
              · exact .inl h
              · exact .inr (by rw [h2]; exact (HD.out (j - 1) (by omega)).1.1)
            clear hr
            by_cases hbf : pxs = [] ∨ BefD pxs rxs
            · have HST : Hid (DgTo k (rowNums rs) (j + 1)) := HD.out.next ⟨by rw [HAT2.out]; exact HDG.out, by
                rcases HPX.out with ⟨h, -⟩ | ⟨h1, h2⟩
                · exact .inl h
                · rw [HAT2.out, ← h2]
                  rcases hbf with h | h
                  · have h3 := (HD.out (j - 1) (by omega)).1.1
                    rw [← h2, h] at h3
                    cases h3
                  · exact .inr h⟩
              have HF := Lib.hid (cmpD_neg hbf)
              clear hbf
              go_wp2_with (first | (go_at_call 85; refine (isDanger_any _ _ _ rxs k _ HRW2.out HRL2.out hrn).mono ?_; rintro e w' ⟨rfl, jj, rfl⟩; rw [HR.out]) | (go_at_call 86; refine (compareD_any _ _ _ _ _ _ pxs rxs _ (by exact HP.out.below (below_draws (Below.refl _ _) jj)) (by exact HRW2.out.below (below_draws (Below.refl _ _) jj)) HPL.out HP2.out HRL2.out rfl).mono ?_; rintro e w' ⟨rfl, rfl⟩; rw [HF.out]))
              go_roundw
              case rel => exact ⟨j + 1, by omega, by go_num, ⟨rA, 2, rc, rxs, rfl, HRW0.out, HRL2.out, .inr ⟨by omega, by rw [show j + 1 - 1 = j by omega]; exact HAT2.out.symm⟩⟩, HST.out, H0.out.below (below_draws (Below.refl _ _) jj), below_draws HB.out jj⟩
              case measure => simp [intOf]; omega
            · have hbf1 : pxs ≠ [] := fun h => hbf (.inl h)
              have hbf2 : ¬ BefD pxs rxs := fun h => hbf (.inr h)
              have HN : Hid (q = false) := by
                show _ = _
                rw [HQ.out]
                refine keepOk_no HJ.out fun h => ?_
                rcases HPX.out with ⟨-, h1⟩ | ⟨h1, h2⟩
                · exact hbf1 h1
                · rcases h.2 with h3 | h3
                  · omega
                  · rw [HAT2.out, ← h2] at h3
                    exact hbf2 h3
              obtain ⟨r, hr⟩ : ∃ r, r = cmpD pxs rxs := ⟨_, rfl⟩
              have hr0 : 0 ≤ r := by rw [hr]; exact cmpD_pos hbf1 hbf2
              have HF : Hid (cmpD pxs rxs = r) := hr.symm
              have hdr : decide (0 ≤ r) = true := by simp only [decide_eq_true_eq]; exact hr0
              clear hbf hbf1 hbf2 hr HQ
              go_wp2_with (first | (go_at_call 85; refine (isDanger_any _ _ _ rxs k _ HRW2.out HRL2.out hrn).mono ?_; rintro e w' ⟨rfl, jj, rfl⟩; rw [HR.out]) | (go_at_call 86; refine (compareD_any _ _ _ _ _ _ pxs rxs _ (by exact HP.out.below (below_draws (Below.refl _ _) jj)) (by exact HRW2.out.below (below_draws (Below.refl _ _) jj)) HPL.out HP2.out HRL2.out rfl).mono ?_; rintro e w' ⟨rfl, rfl⟩; rw [HF.out]))
              go_ret
              exact ⟨ret_of (by rw [HN.out]; rfl), below_draws HB.out jj⟩
        · have HN : Hid (q = true) := by
            show _ = _
            rw [HQ.out]
            exact keepOk_yes HKS.out hdt (by rw [HLS.out]; omega)
          clear HQ
          go_wp2
          go_ret
          exact ⟨ret_of (by rw [HN.out]; rfl), hb⟩

theorem specIsKeep_on (k s : Int) (A : Option Addr) (n c : Nat) (rs : List RowV) (ls : List (List Int)) (w : World) (hA : Grid w A rs) (he : rowNums rs = ls) (hx : rs.length = n) (hn : n ≤ 1048576) :
    Calls Try.prog 35 #[.agg #[.int .i64 k, .slice A n c, .int .i64 s]] w fun e w' => e = .returned (.bool (keepOk k s ls)) ∧ Below w.heap.size w w' :=
  he ▸ specIsKeep_any k s A n c rs w hA hx hn
theorem implIsKeep_on (k s : Int) (A : Option Addr) (n c : Nat) (rs : List RowV) (ls : List (List Int)) (w : World) (hA : Grid w A rs) (he : rowNums rs = ls) (hx : rs.length = n) (hn : n ≤ 1048576) :
    Calls Try.prog 37 #[.agg #[.int .i64 k, .slice A n c, .int .i64 s]] w fun e w' => e = .returned (.bool (keepOk k s ls)) ∧ Below w.heap.size w w' :=
  he ▸ isKeep_any k s A n c rs w hA hx hn
end Go.Proofs.Ytkdjdnknhbmliaa

namespace Go.Proofs.Ytkdjdnknhbmliaa
open Go.RowKit

set_option maxHeartbeats 800000 in
set_option maxRecDepth 100000 in
theorem placeBank_any (bs : List Bool) (t : Bool) (n : Nat) (w : World) (hy : bs.length = n) (hn : n ≤ 8) :
    Calls Try.prog 94 #[.agg (placeCells bs t), .int .i64 n] w (StateRes bs t w) := by
  subst hy
  have hp := (Whole.fresh w 90 (placeCells bs t)).alloc (.cells #[.slice none 0 0, .bool false] 63)
  have hr := Whole.fresh (w.alloc (.cells (placeCells bs t) 90)) 63 #[.slice none 0 0, .bool false]
  rw [World.size_alloc] at hr
  have hb2 := below2 w (.cells (placeCells bs t) 90) (.cells #[.slice none 0 0, .bool false] 63)
  have ht8 := (hp.cell 8).trans (show (placeCells bs t)[8]? = some (.bool t) from rfl)
  have hB : ∀ j u, (bits bs)[j]? = some u → ((w.alloc (.cells (placeCells bs t) 90)).alloc (.cells #[.slice none 0 0, .bool false] 63)).cell? ⟨w.heap.size, 0 + j, none⟩ = some u := fun j u hu => by
    have hj : j < bs.length := by have := (List.getElem?_eq_some_iff.1 hu).1; rwa [bits_len] at this
    rw [Nat.zero_add, hp.cell j, place_at bs t (by omega), ← hu]
    simp [bits, hj]
  have HB := Lib.hid hB
  clear hB
  have hsl := fun W : World => slice_eight W w.heap.size bs.length hn
  go_enter Try.func94, Try.ntmps94
  go_wp2
  go_region_held3 (fun w' => w'.cell? ⟨w.heap.size, 8, none⟩ = some (.bool t)) (go_keep)
    (first | (go_at_call 122; refine (cloneB_any w.heap.size 0 bs.length 8 bs _ (by exact HB.out) rfl (by omega)).mono ?_; rintro e w1 ⟨A, c, rfl, hf, hb⟩; have k8 := ((hp.drew.below hb).cell 8).trans (show (placeCells bs t)[8]? = some (.bool t) from rfl); obtain ⟨r0, r1, f0, f1⟩ := (hr.drew.below hb).two))
  have hlw : w.heap.size + 1 + 1 ≤ w1.heap.size := by have := hb.size; simpa using this
  have HF := Lib.hid ((hf.set_out (b := w.heap.size + 1) (o := 0) (u := .slice A bs.length c) (.inl (by simp))).set_out (b := w.heap.size + 1) (o := 1) (u := .bool t) (.inl (by simp)))
  have HBW := Lib.hid (below_then hb2.drew hb (by simp; omega))
  clear hf hb
  go_wp2
  refine bodyPost_ret (v := .agg #[.slice A bs.length c, .bool t]) (by simp [results, Try.results94, go_sem, r0, r1]) rfl ⟨A, c, rfl, ?_, ?_⟩
  · have h := HF.out.more (lo' := w.heap.size) (hi' := w1.heap.size) (by simp; omega) (Nat.le_refl _)
    simpa [World.setCell] using h
  · exact below_set (below_set HBW.out (by omega)) (by omega)

theorem placeBank_none (n : Nat) (w : World) (hn : n ≤ 8) :
    Calls Try.prog 94 #[.agg #[.bool false, .bool false, .bool false, .bool false, .bool false, .bool false, .bool false, .bool false, .bool false], .int .i64 n] w (StateRes (falses n) false w) := by
  have h := placeBank_any (falses n) false n w (falses_len n) hn
  rw [place_falses] at h
  exact h

set_option maxHeartbeats 800000 in
set_option maxRecDepth 100000 in
theorem keStart_any (n : Nat) (A : Option Addr) (m c : Nat) (s : Int) (w : World) (hn : n ≤ 1048576) :
    Calls Try.prog 93 #[.agg #[.int .i64 (n : Int), .slice A m c, .int .i64 s]] w fun e w' => e = .returned (.agg #[.slice (some ⟨w.heap.size + 1 + 1, 0, none⟩) n n, .bool false]) ∧ Whole w' (w.heap.size + 1 + 1) 4 (bits (falses n)).toArray ∧ Below w.heap.size w w' := by
  obtain ⟨i0, hi, hz0, hz1, hz2⟩ := info_parts info_bool
  have hmk : ∀ W : World, (Instr.makeSlice 24 (.int .i64 (n : Int)) (.int .i64 (n : Int))).run Try.prog W = .ok (.slice (some ⟨W.heap.size, 0, none⟩) n n) (W.alloc (.cells (bits (falses n)).toArray 4)) := by
    intro W
    have h := run_make (P := Try.prog) W 24 4 i0 _ Try.underlying24 hi hz0 .i64 .i64 n n (by omega) (by omega) (by rw [hz2]; omega) (by omega)
    simp only [Int.toNat_natCast, hz1, made_falses] at h
    rw [h]
    rfl
  clear hi hz0 hz1 hz2
  go_enter Try.func93, Try.ntmps93
  go_wp2
  go_returns
  have hw := Whole.fresh ((w.alloc (.cells #[.int .i64 (n : Int), .slice A m c, .int .i64 s] 54)).alloc (.cells #[.slice (some ⟨w.heap.size + 1 + 1, 0, none⟩) n n, .bool false] 63)) 4 (bits (falses n)).toArray
  simp only [World.size_alloc] at hw
  exact ⟨rfl, hw, below3 w _ _ _⟩

set_option maxHeartbeats 1600000 in
set_option maxRecDepth 100000 in
theorem keEnd_any (n : Nat) (A : Option Addr) (m c : Nat) (s : Int) (w : World) (hn : n ≤ 1048576) :
    Calls Try.prog 95 #[.agg #[.int .i64 (n : Int), .slice A m c, .int .i64 s]] w (StateRes (trues n) true w) := by
  obtain ⟨i0, hi, hz0, hz1, hz2⟩ := info_parts info_bool
  have HI := Lib.hid hi
  have HZ0 := Lib.hid hz0
  have HZ1 := Lib.hid hz1
  have HZ2 := Lib.hid hz2
  clear hi hz0 hz1 hz2
  have h1 := (Whole.fresh (w.alloc (.cells #[.int .i64 (n : Int), .slice A m c, .int .i64 s] 54)) 63 #[.slice none 0 0, .bool false]).alloc (.cells #[.slice none 0 0, .bool true] 63)
  have h2 := Whole.fresh ((w.alloc (.cells #[.int .i64 (n : Int), .slice A m c, .int .i64 s] 54)).alloc (.cells #[.slice none 0 0, .bool false] 63)) 63 #[.slice none 0 0, .bool true]
  have hk0 := ((Whole.fresh w 54 #[.int .i64 (n : Int), .slice A m c, .int .i64 s]).alloc (.cells #[.slice none 0 0, .bool false] 63)).alloc (.cells #[.slice none 0 0, .bool true] 63)
  have hb0 := below3 w (.cells #[.int .i64 (n : Int), .slice A m c, .int .i64 s] 54) (.cells #[.slice none 0 0, .bool false] 63) (.cells #[.slice none 0 0, .bool true] 63)
  simp only [World.size_alloc] at h1 h2
  go_enter Try.func95, Try.ntmps95
  go_wp2
  go_loopw [4] (fun i wr => ∃ (k : Nat) (D : Option Addr) (q : Nat), k ≤ n ∧ i = .int .i64 k ∧ wr.ownsRow (w.heap.size + 1 + 1 + 1) 4 1 (.slice D k q) k (bits (trues k)) ∧ Whole wr (w.heap.size + 1) 63 #[.slice none 0 0, .bool false] ∧ Whole wr (w.heap.size + 1 + 1) 63 #[.slice D k q, .bool true] ∧ Whole wr w.heap.size 54 #[.int .i64 (n : Int), .slice A m c, .int .i64 s] ∧ Below w.heap.size w wr) (fun i _ => n - (intOf i).toNat)
  case atStart => exact ⟨0, none, 0, Nat.zero_le _, rfl, World.ownsRow_nil _ _ _ _, h1, h2, hk0, hb0⟩
  case round =>
    clear h1 h2 hk0 hb0
    obtain ⟨k, D, q, hk, rfl, hown, h1, h2, hk0, hb⟩ := hrel
    obtain ⟨z0, z1, z2⟩ := hk0.cells3
    have hlk := hk0.lt
    obtain ⟨a0, a1, e0, e1⟩ := h2.two
    have hl2 := h2.lt
    by_cases hlt : k < n
    · have hOW := Lib.hid (hown.alloc (.cells #[.bool true] 4))
      have h1' := Lib.hid (h1.alloc (.cells #[.bool true] 4))
      have h2' := Lib.hid (h2.alloc (.cells #[.bool true] 4))
      have hk0' := Lib.hid (hk0.alloc (.cells #[.bool true] 4))
      have hb' := Lib.hid (hb.alloc hb.size (.cells #[.bool true] 4))
      have hbase : w.heap.size + 1 + 1 + 1 ≤ (wr.alloc (.cells #[.bool true] 4)).heap.size := by simp; omega
      have HBASE := Lib.hid hbase
      have HMAX := Lib.hid (show k + 1 ≤ maxLen by unfold maxLen; omega)
      have HBYT := Lib.hid (show (k + 1) * 1 ≤ 140737488355328 by omega)
      clear hown h1 h2 hk0 hb hbase
      go_wp2_with (at_builtin; refine wpList_append_own _ rfl (.tmp 13) (.tmp 14) 24 rfl (w.heap.size + 1 + 1 + 1) 4 i0 (.bool false) 1 1 Try.underlying24 HI.out HZ0.out HZ1.out HZ2.out rfl (by decide) (.slice D k q) k (bits (trues k)) rfl hOW.out ⟨wr.heap.size, 0, none⟩ 1 1 [.bool true] rfl rfl (cell_one_new _ _ _) (by simp [Value.oneCell']) HMAX.out HBYT.out HBASE.out ?_; intro v' w1 hown1 hg1 _; obtain ⟨D', q', hv', -⟩ := Fresh.of_own hown1 (Nat.le_refl _); rw [hv'] at hown1 ⊢; clear hv'; have g2 : Whole w1 (w.heap.size + 1 + 1) 63 #[.slice D k q, .bool true] := (hg1.block _ h2'.out.lt (fun e => by have := (hOW.out.lt _ e.symm).1; omega)).trans h2'.out; have g1 : Whole w1 (w.heap.size + 1) 63 #[.slice none 0 0, .bool false] := (hg1.block _ h1'.out.lt (fun e => by have := (hOW.out.lt _ e.symm).1; omega)).trans h1'.out; have g0 : Whole w1 w.heap.size 54 #[.int .i64 (n : Int), .slice A m c, .int .i64 s] := (hg1.block _ hk0'.out.lt (fun e => by have := (hOW.out.lt _ e.symm).1; omega)).trans hk0'.out; obtain ⟨b0, b1, f0, f1⟩ := g2.two)
      have hbw : Below w.heap.size w w1 := hb'.out.grown hg1 (by have := hb'.out.size; omega) (fun kk e => by have := (hOW.out.lt _ e).1; omega)
      rw [trues_next] at hown1
      have hown2 := ownsRow_setCell_below hown1 (a := ⟨w.heap.size + 1 + 1, 0, none⟩) (by show w.heap.size + 1 + 1 < _; omega) (.slice D' (k + 1) q')
      go_roundw
      case rel => exact ⟨k + 1, D', q', by omega, by go_num, hown2, g1.off (by omega), g2.set_ 0 (.slice D' (k + 1) q'), g0.off (by omega), below_set hbw (by omega)⟩
      case measure => simp [intOf]; omega
    · have hkn : k = n := by omega
      subst hkn
      obtain ⟨r0, r1, f0, f1⟩ := h1.two
      obtain ⟨D', q', hv', hf⟩ := Fresh.of_own hown (Nat.le_refl _)
      simp only [Value.slice.injEq, true_and] at hv'
      obtain ⟨rfl, rfl⟩ := hv'
      have HF := Lib.hid (((hf.set_out (b := w.heap.size + 1) (o := 0) (u := .slice D k q) (.inl (by omega))).set_out (b := w.heap.size + 1) (o := 1) (u := .bool true) (.inl (by omega))).more (lo' := w.heap.size) (hi' := wr.heap.size) (by omega) (Nat.le_refl _))
      clear hf hown
      go_wp2
      refine bodyPost_ret (v := .agg #[.slice D k q, .bool true]) (by simp [results, Try.results95, go_sem, r0, r1]) rfl ⟨D, q, by rw [trues_len], ?_, ?_⟩
      · have h := HF.out
        simpa [World.setCell] using h
      · exact below_set (below_set hb (by omega)) (by omega)

/-- What stands over in the first and in the last bank: nothing where there is no keep. -/
noncomputable def startBits (k s : Int) (ds : List (List Int)) : List Bool := if keepOk k s ds then falses k.toNat else []
noncomputable def endBits (k s : Int) (ds : List (List Int)) : List Bool := if keepOk k s ds then trues k.toNat else []
theorem startBits_le (k s : Int) (ds : List (List Int)) : (startBits k s ds).length ≤ 1048576 := by
  rw [startBits]
  split
  · rename_i h
    have := (keepOk_iff.1 h).1
    rw [falses_len]
    omega
  · simp
theorem endBits_le (k s : Int) (ds : List (List Int)) : (endBits k s ds).length ≤ 1048576 := by
  rw [endBits]
  split
  · rename_i h
    have := (keepOk_iff.1 h).1
    rw [trues_len]
    omega
  · simp

set_option maxHeartbeats 1600000 in
theorem specStartBank_on (k s : Int) (A : Option Addr) (m c : Nat) (rs : List RowV) (ls : List (List Int)) (w : World) (hA : Grid w A rs) (he : rowNums rs = ls) (hx : rs.length = m) (hm : m ≤ 1048576) :
    Calls Try.prog 48 #[.agg #[.int .i64 k, .slice A m c, .int .i64 s]] w (StatePost (startBits k s ls) false (keepOk k s ls) w) := by
  subst he
  unfold startBits
  have HX := Lib.hid hx
  clear hx
  have hA2 := (hA.alloc (.cells #[.int .i64 k, .slice A m c, .int .i64 s] 54)).alloc (.cells #[.slice none 0 0, .bool false] 63)
  have h0 := (Whole.fresh w 54 #[.int .i64 k, .slice A m c, .int .i64 s]).alloc (.cells #[.slice none 0 0, .bool false] 63)
  have h1 := Whole.fresh (w.alloc (.cells #[.int .i64 k, .slice A m c, .int .i64 s] 54)) 63 #[.slice none 0 0, .bool false]
  rw [World.size_alloc] at h1
  cases hp : keepOk k s (rowNums rs)
  · have HP := Lib.hid hp
    clear hp
    go_enter Try.func48, Try.ntmps48
    go_wp2_with fail
    refine (keGood_any k s A m c rs _ hA2 HX.out hm).mono ?_
    rintro e w1 ⟨rfl, hb⟩
    rw [HP.out]
    have ht := below_then (below2 w _ _) hb (by simp; omega)
    have hr := h1.below hb
    have hlr := hr.lt
    obtain ⟨r0, r1, f0, f1⟩ := hr.two
    clear h0 h1 hb hA2
    go_wp2
    refine bodyPost_ret (v := .tuple #[.agg #[.slice none 0 0, .bool false], .bool false]) (by simp [results, Try.results48, go_sem, r0, r1]) rfl ⟨none, 0, rfl, .inl rfl, ?_⟩
    exact below_set (below_set ht (by omega)) (by omega)
  · have HP := Lib.hid hp
    obtain ⟨n, rfl⟩ : ∃ n : Nat, k = n := ⟨k.toNat, by have := (keepOk_iff.1 hp).1; omega⟩
    have h8 : n ≤ 8 := by have := (keepOk_iff.1 hp).1; omega
    rw [Int.toNat_natCast]
    clear hp
    go_enter Try.func48, Try.ntmps48
    go_wp2_with fail
    refine (keGood_any (n : Int) s A m c rs _ hA2 HX.out hm).mono ?_
    rintro e w1 ⟨rfl, hb⟩
    rw [HP.out]
    have ht := below_then (below2 w _ _) hb (by simp; omega)
    have h0' := h0.below hb
    obtain ⟨c0, c1, c2⟩ := h0'.cells3
    have hr := h1.below hb
    have hlr0 := hr.lt
    clear h0 h1 hb hA2
    go_wp2_with fail
    refine (keStart_any n A m c s _ (by omega)).mono ?_
    rintro e w2 ⟨rfl, hw, hb⟩
    have hf : Fresh w2 w1.heap.size w2.heap.size 4 (some ⟨w1.heap.size + 1 + 1, 0, none⟩) (bits (falses n)) := Fresh.of_whole hw (by omega) hw.lt
    obtain ⟨A2, hA2⟩ : ∃ A2 : Option Addr, A2 = some ⟨w1.heap.size + 1 + 1, 0, none⟩ := ⟨_, rfl⟩
    have q2 := n
    rw [← hA2] at hf ⊢
    clear hw hA2
    have hlo : w.heap.size + 1 < w1.heap.size := hlr0
    have ht2 := below_then ht hb ht.size
    replace hr := hr.below hb
    obtain ⟨r0, r1, f0, f1⟩ := hr.two
    have HF := Lib.hid (((hf.set_out (b := w.heap.size + 1) (o := 0) (u := .slice A2 n n) (.inl (by omega))).set_out (b := w.heap.size + 1) (o := 1) (u := .bool false) (.inl (by omega))).more (lo' := w.heap.size) (hi' := w2.heap.size) (by omega) (Nat.le_refl _))
    clear c0 c1 c2 hf hb
    go_wp2
    refine bodyPost_ret (v := .tuple #[.agg #[.slice A2 n n, .bool false], .bool true]) (by simp [results, Try.results48, go_sem, r0, r1]) rfl ⟨A2, n, by simp [falses], ?_, ?_⟩
    · have h := HF.out
      simpa [World.setCell] using h
    · exact below_set (below_set ht2 (by omega)) (by omega)

set_option maxHeartbeats 1600000 in
theorem specEndBank_on (k s : Int) (A : Option Addr) (m c : Nat) (rs : List RowV) (ls : List (List Int)) (w : World) (hA : Grid w A rs) (he : rowNums rs = ls) (hx : rs.length = m) (hm : m ≤ 1048576) :
    Calls Try.prog 51 #[.agg #[.int .i64 k, .slice A m c, .int .i64 s]] w (StatePost (endBits k s ls) (keepOk k s ls) (keepOk k s ls) w) := by
  subst he
  unfold endBits
  have HX := Lib.hid hx
  clear hx
  have hA2 := (hA.alloc (.cells #[.int .i64 k, .slice A m c, .int .i64 s] 54)).alloc (.cells #[.slice none 0 0, .bool false] 63)
  have h0 := (Whole.fresh w 54 #[.int .i64 k, .slice A m c, .int .i64 s]).alloc (.cells #[.slice none 0 0, .bool false] 63)
  have h1 := Whole.fresh (w.alloc (.cells #[.int .i64 k, .slice A m c, .int .i64 s] 54)) 63 #[.slice none 0 0, .bool false]
  rw [World.size_alloc] at h1
  cases hp : keepOk k s (rowNums rs)
  · have HP := Lib.hid hp
    clear hp
    go_enter Try.func51, Try.ntmps51
    go_wp2_with fail
    refine (keGood_any k s A m c rs _ hA2 HX.out hm).mono ?_
    rintro e w1 ⟨rfl, hb⟩
    rw [HP.out]
    have ht := below_then (below2 w _ _) hb (by simp; omega)
    have hr := h1.below hb
    have hlr := hr.lt
    obtain ⟨r0, r1, f0, f1⟩ := hr.two
    clear h0 h1 hb hA2
    go_wp2
    refine bodyPost_ret (v := .tuple #[.agg #[.slice none 0 0, .bool false], .bool false]) (by simp [results, Try.results51, go_sem, r0, r1]) rfl ⟨none, 0, rfl, .inl rfl, ?_⟩
    exact below_set (below_set ht (by omega)) (by omega)
  · have HP := Lib.hid hp
    obtain ⟨n, rfl⟩ : ∃ n : Nat, k = n := ⟨k.toNat, by have := (keepOk_iff.1 hp).1; omega⟩
    have h8 : n ≤ 8 := by have := (keepOk_iff.1 hp).1; omega
    rw [Int.toNat_natCast]
    clear hp
    go_enter Try.func51, Try.ntmps51
    go_wp2_with fail
    refine (keGood_any (n : Int) s A m c rs _ hA2 HX.out hm).mono ?_
    rintro e w1 ⟨rfl, hb⟩
    rw [HP.out]
    have ht := below_then (below2 w _ _) hb (by simp; omega)
    have h0' := h0.below hb
    obtain ⟨c0, c1, c2⟩ := h0'.cells3
    have hr := h1.below hb
    have hlr0 := hr.lt
    clear h0 h1 hb hA2
    go_wp2_with fail
    refine (keEnd_any n A m c s _ (by omega)).mono ?_
    rintro e w2 ⟨A2, q2, rfl, hf, hb⟩
    have hlo : w.heap.size + 1 < w1.heap.size := hlr0
    have ht2 := below_then ht hb ht.size
    replace hr := hr.below hb
    obtain ⟨r0, r1, f0, f1⟩ := hr.two
    have HF := Lib.hid (((hf.set_out (b := w.heap.size + 1) (o := 0) (u := .slice A2 (trues n).length q2) (.inl (by omega))).set_out (b := w.heap.size + 1) (o := 1) (u := .bool true) (.inl (by omega))).more (lo' := w.heap.size) (hi' := w2.heap.size) (by omega) (Nat.le_refl _))
    clear c0 c1 c2 hf hb
    go_wp2
    refine bodyPost_ret (v := .tuple #[.agg #[.slice A2 (trues n).length q2, .bool true], .bool true]) (by simp [results, Try.results51, go_sem, r0, r1]) rfl ⟨A2, q2, rfl, ?_, ?_⟩
    · have h := HF.out
      simpa [World.setCell] using h
    · exact below_set (below_set ht2 (by omega)) (by omega)

set_option maxHeartbeats 1600000 in
theorem implStartBank_on (k s : Int) (A : Option Addr) (m c : Nat) (rs : List RowV) (ls : List (List Int)) (w : World) (hA : Grid w A rs) (he : rowNums rs = ls) (hx : rs.length = m) (hm : m ≤ 1048576) :
    Calls Try.prog 49 #[.agg #[.int .i64 k, .slice A m c, .int .i64 s]] w (StatePost (startBits k s ls) false (keepOk k s ls) w) := by
  subst he
  unfold startBits
  have HX := Lib.hid hx
  clear hx
  have hA2 := (hA.alloc (.cells #[.int .i64 k, .slice A m c, .int .i64 s] 54)).alloc (.cells #[.slice none 0 0, .bool false] 63)
  have h0 := (Whole.fresh w 54 #[.int .i64 k, .slice A m c, .int .i64 s]).alloc (.cells #[.slice none 0 0, .bool false] 63)
  have h1 := Whole.fresh (w.alloc (.cells #[.int .i64 k, .slice A m c, .int .i64 s] 54)) 63 #[.slice none 0 0, .bool false]
  rw [World.size_alloc] at h1
  cases hp : keepOk k s (rowNums rs)
  · have HP := Lib.hid hp
    clear hp
    go_enter Try.func49, Try.ntmps49
    go_wp2_with fail
    refine (isKeep_any k s A m c rs _ hA2 HX.out hm).mono ?_
    rintro e w1 ⟨rfl, hb⟩
    rw [HP.out]
    have ht := below_then (below2 w _ _) hb (by simp; omega)
    have hr := h1.below hb
    have hlr := hr.lt
    obtain ⟨r0, r1, f0, f1⟩ := hr.two
    clear h0 h1 hb hA2
    go_wp2
    refine bodyPost_ret (v := .tuple #[.agg #[.slice none 0 0, .bool false], .bool false]) (by simp [results, Try.results49, go_sem, r0, r1]) rfl ⟨none, 0, rfl, .inl rfl, ?_⟩
    exact below_set (below_set ht (by omega)) (by omega)
  · have HP := Lib.hid hp
    obtain ⟨n, rfl⟩ : ∃ n : Nat, k = n := ⟨k.toNat, by have := (keepOk_iff.1 hp).1; omega⟩
    have h8 : n ≤ 8 := by have := (keepOk_iff.1 hp).1; omega
    rw [Int.toNat_natCast]
    clear hp
    go_enter Try.func49, Try.ntmps49
    go_wp2_with fail
    refine (isKeep_any (n : Int) s A m c rs _ hA2 HX.out hm).mono ?_
    rintro e w1 ⟨rfl, hb⟩
    rw [HP.out]
    have ht := below_then (below2 w _ _) hb (by simp; omega)
    have h0' := h0.below hb
    obtain ⟨c0, c1, c2⟩ := h0'.cells3
    have hr := h1.below hb
    have hlr0 := hr.lt
    clear h0 h1 hb hA2
    go_wp2_with fail
    refine (placeBank_none n _ h8).mono ?_
    rintro e w2 ⟨A2, q2, rfl, hf, hb⟩
    have hlo : w.heap.size + 1 < w1.heap.size := hlr0
    have ht2 := below_then ht hb ht.size
    replace hr := hr.below hb
    obtain ⟨r0, r1, f0, f1⟩ := hr.two
    have HF := Lib.hid (((hf.set_out (b := w.heap.size + 1) (o := 0) (u := .slice A2 (falses n).length q2) (.inl (by omega))).set_out (b := w.heap.size + 1) (o := 1) (u := .bool false) (.inl (by omega))).more (lo' := w.heap.size) (hi' := w2.heap.size) (by omega) (Nat.le_refl _))
    clear c0 c1 c2 hf hb
    go_wp2
    refine bodyPost_ret (v := .tuple #[.agg #[.slice A2 (falses n).length q2, .bool false], .bool true]) (by simp [results, Try.results49, go_sem, r0, r1]) rfl ⟨A2, q2, rfl, ?_, ?_⟩
    · have h := HF.out
      simpa [World.setCell] using h
    · exact below_set (below_set ht2 (by omega)) (by omega)

set_option maxHeartbeats 1600000 in
theorem implEndBank_on (k s : Int) (A : Option Addr) (m c : Nat) (rs : List RowV) (ls : List (List Int)) (w : World) (hA : Grid w A rs) (he : rowNums rs = ls) (hx : rs.length = m) (hm : m ≤ 1048576) :
    Calls Try.prog 52 #[.agg #[.int .i64 k, .slice A m c, .int .i64 s]] w (StatePost (endBits k s ls) (keepOk k s ls) (keepOk k s ls) w) := by
  subst he
  unfold endBits
  have HX := Lib.hid hx
  clear hx
  have hA2 := (hA.alloc (.cells #[.int .i64 k, .slice A m c, .int .i64 s] 54)).alloc (.cells #[.slice none 0 0, .bool false] 63)
  have h0 := (Whole.fresh w 54 #[.int .i64 k, .slice A m c, .int .i64 s]).alloc (.cells #[.slice none 0 0, .bool false] 63)
  have h1 := Whole.fresh (w.alloc (.cells #[.int .i64 k, .slice A m c, .int .i64 s] 54)) 63 #[.slice none 0 0, .bool false]
  rw [World.size_alloc] at h1
  cases hp : keepOk k s (rowNums rs)
  · have HP := Lib.hid hp
    clear hp
    go_enter Try.func52, Try.ntmps52
    go_wp2_with fail
    refine (isKeep_any k s A m c rs _ hA2 HX.out hm).mono ?_
    rintro e w1 ⟨rfl, hb⟩
    rw [HP.out]
    have ht := below_then (below2 w _ _) hb (by simp; omega)
    have hr := h1.below hb
    have hlr := hr.lt
    obtain ⟨r0, r1, f0, f1⟩ := hr.two
    clear h0 h1 hb hA2
    go_wp2
    refine bodyPost_ret (v := .tuple #[.agg #[.slice none 0 0, .bool false], .bool false]) (by simp [results, Try.results52, go_sem, r0, r1]) rfl ⟨none, 0, rfl, .inl rfl, ?_⟩
    exact below_set (below_set ht (by omega)) (by omega)
  · have HP := Lib.hid hp
    obtain ⟨n, rfl⟩ : ∃ n : Nat, k = n := ⟨k.toNat, by have := (keepOk_iff.1 hp).1; omega⟩
    have h8 : n ≤ 8 := by have := (keepOk_iff.1 hp).1; omega
    rw [Int.toNat_natCast]
    clear hp
    go_enter Try.func52, Try.ntmps52
    go_wp2_with fail
    refine (isKeep_any (n : Int) s A m c rs _ hA2 HX.out hm).mono ?_
    rintro e w1 ⟨rfl, hb⟩
    rw [HP.out]
    have ht := below_then (below2 w _ _) hb (by simp; omega)
    have h0' := h0.below hb
    obtain ⟨c0, c1, c2⟩ := h0'.cells3
    have hr := h1.below hb
    have hlr0 := hr.lt
    clear h0 h1 hb hA2
    go_wp2_with fail
    go_region_held3 (fun w' => w'.cell? ⟨w.heap.size, 0, none⟩ = some (.int .i64 (n : Int))) (go_keep)
      (first | (go_at_call 96; refine (everybodyOver_any n _ h8).mono ?_; rintro e w2' ⟨rfl, hb2⟩; obtain ⟨k0, k1, k2⟩ := (h0'.drew.below hb2).cells3) | (go_at_call 94; refine (placeBank_any (trues n) true n _ (trues_len n) h8).mono ?_; rintro e w2 ⟨A2, q2, rfl, hf, hb3⟩; obtain ⟨l0, l1, l2⟩ := ((h0'.drew.below hb2).below hb3).cells3; obtain ⟨r0, r1, f0, f1⟩ := ((hr.drew.below hb2).below hb3).two))
    have hlo2 : w1.heap.size ≤ w2'.heap.size := hb2.size
    have ht2 := below_then (below_then ht.drew hb2 ht.size) hb3 (Nat.le_trans ht.size hb2.size)
    have hlo : w.heap.size + 1 < w1.heap.size := hlr0
    have HF := Lib.hid (((hf.set_out (b := w.heap.size + 1) (o := 0) (u := .slice A2 (trues n).length q2) (.inl (by omega))).set_out (b := w.heap.size + 1) (o := 1) (u := .bool true) (.inl (by omega))).more (lo' := w.heap.size) (hi' := w2.heap.size) (by omega) (Nat.le_refl _))
    clear c0 c1 c2 hf hb2 hb3
    go_wp2
    refine bodyPost_ret (v := .tuple #[.agg #[.slice A2 (trues n).length q2, .bool true], .bool true]) (by simp [results, Try.results52, go_sem, r0, r1]) rfl ⟨A2, q2, rfl, ?_, ?_⟩
    · have h := HF.out
      simpa [World.setCell] using h
    · exact below_set (below_set ht2 (by omega)) (by omega)

end Go.Proofs.Ytkdjdnknhbmliaa

namespace Go.Proofs.Ytkdjdnknhbmliaa
open Go.RowKit

/-- Dangers of at most eight things. -/
def DgAll (ds : List (List Int)) : Prop := ∀ d ∈ ds, IsDg 8 d
theorem keep_all {k s : Int} {ds : List (List Int)} (h : keepOk k s ds = true) : DgAll ds := by
  intro d hd
  obtain ⟨j, hj, rfl⟩ := List.getElem_of_mem hd
  have h1 := dg_at h hj
  have h2 := (keepOk_iff.1 h).1
  exact ⟨h1.1, h1.2.1, h1.2.2.1, by have := h1.2.2.2; omega⟩

set_option maxHeartbeats 3200000 in
theorem leaves_any (A : Option Addr) (c : Nat) (d : List Int) (bs : List Bool) (t : Bool) (w : World) (hA : Holds w A (nums d)) (hd : IsDg 8 d) :
    Calls Try.prog 91 #[.agg (placeCells bs t), .slice A 2 c] w fun e w' => e = .returned (.bool (leftBy bs t d)) ∧ Below w.heap.size w w' := by
  obtain ⟨b, o, rfl, hb, a0, a1⟩ := two_at hA hd.1
  obtain ⟨-, h0, h1, h2⟩ := hd
  have HL : Hid (leftBy bs t d = ((bs.getD (d.getD 0 0).toNat false != t) && (bs.getD (d.getD 1 0).toNat false != t))) := rfl
  rw [HL.out]
  clear HL hA
  generalize d.getD 0 0 = x0 at *
  generalize d.getD 1 0 = x1 at *
  obtain ⟨i, rfl⟩ : ∃ i : Nat, x0 = i := ⟨x0.toNat, by omega⟩
  obtain ⟨j, rfl⟩ : ∃ j : Nat, x1 = j := ⟨x1.toNat, by omega⟩
  have hi8 : i < 8 := by omega
  have hj8 : j < 8 := by omega
  rw [Int.toNat_natCast, Int.toNat_natCast]
  have hp := Whole.fresh w 90 (placeCells bs t)
  have HB := Lib.hid (below1 w (.cells (placeCells bs t) 90))
  have ci := (hp.cell i).trans (show (placeCells bs t)[i]? = some (.bool (bs.getD i false)) by
    have : i = 0 ∨ i = 1 ∨ i = 2 ∨ i = 3 ∨ i = 4 ∨ i = 5 ∨ i = 6 ∨ i = 7 := by omega
    rcases this with rfl | rfl | rfl | rfl | rfl | rfl | rfl | rfl <;> rfl)
  have cj := (hp.cell j).trans (show (placeCells bs t)[j]? = some (.bool (bs.getD j false)) by
    have : j = 0 ∨ j = 1 ∨ j = 2 ∨ j = 3 ∨ j = 4 ∨ j = 5 ∨ j = 6 ∨ j = 7 := by omega
    rcases this with rfl | rfl | rfl | rfl | rfl | rfl | rfl | rfl <;> rfl)
  have c8 := (hp.cell 8).trans (show (placeCells bs t)[8]? = some (.bool t) from rfl)
  have ca := (World.cell?_alloc_lt w (.cells (placeCells bs t) 90) (⟨b, o, none⟩ : Addr) hb).trans a0
  have cb := (World.cell?_alloc_lt w (.cells (placeCells bs t) 90) (⟨b, o + 1, none⟩ : Addr) hb).trans a1
  have hii : (i : Int) < 8 := by omega
  have hjj : (j : Int) < 8 := by omega
  generalize bs.getD i false = u at *
  generalize bs.getD j false = v at *
  clear h0 h1 h2 hp a0 a1
  generalize placeCells bs t = cs at *
  cases u <;> cases v <;> cases t
  all_goals
    go_enter Try.func91, Try.ntmps91
    go_wp2
    go_quiet (fail)
    go_wp2
    go_ret
    exact ⟨rfl, below_draws HB.out _⟩

/-- What slices.IndexFunc hands back. -/
def FuncPost (p : List Int → Bool) (ls : List (List Int)) (w : World) (e : Ending) (w' : World) : Prop := ∃ r : Int, e = .returned (.int .i64 r) ∧ decide (0 ≤ r) = ls.any p ∧ Below w.heap.size w w'
def leavesV (bs : List Bool) (t : Bool) : Value := .func (.func 91) #[.agg (placeCells bs t)] #[]

set_option maxHeartbeats 3200000 in
theorem indexFn_any (A : Option Addr) (n c : Nat) (rs : List RowV) (bs : List Bool) (t : Bool) (w : World) (hA : Grid w A rs) (hx : rs.length = n) (hn : n ≤ 1048576) (hd : DgAll (rowNums rs)) :
    Calls Try.prog 139 #[.slice A n c, leavesV bs t] w (FuncPost (leftBy bs t) (rowNums rs) w) := by
  subst hx
  have HG := Lib.hid hA
  have HD := Lib.hid hd
  unfold leavesV
  clear hA hd
  go_enter Try.func139, Try.ntmps139
  go_wp2
  go_loopw [8] (fun i wr => ∃ j : Nat, j ≤ rs.length ∧ i = .int .i64 j ∧ (∀ x, x < j → leftBy bs t ((rowNums rs).getD x []) = false) ∧ Below w.heap.size w wr) (fun i _ => rs.length - (intOf i).toNat)
  case atStart => exact ⟨0, Nat.zero_le _, rfl, fun x h => by omega, Below.refl _ _⟩
  case round =>
    obtain ⟨j, hj, rfl, hs, hb⟩ := hrel
    have HS := Lib.hid hs
    have HB := Lib.hid hb
    by_cases hlt : j < rs.length
    · obtain ⟨b, o, rfl, hbl, hcell, hrow, hrl, hrn⟩ := grid_row HG.out hlt
      replace hcell := (hb.cell (p := ⟨b, o + j, none⟩) hbl).trans hcell
      have HAT := Lib.hid (rows_at rs hlt)
      have HDG : Hid (IsDg 8 rs[j].xs) := HD.out _ (by rw [← HAT.out, List.getD_eq_getElem?_getD, List.getElem?_eq_getElem (by rw [rowNums_len]; exact hlt)]; exact List.getElem_mem _)
      obtain ⟨R, hR⟩ : ∃ R, R = rs[j] := ⟨_, rfl⟩
      rw [← hR] at hcell hrow hrl hrn HAT HDG
      obtain ⟨rA, rn, rc, rxs⟩ := R
      replace hcell : World.cell? wr ⟨b, o + j, none⟩ = some (.slice rA rn rc) := hcell
      obtain rfl : rn = 2 := by have h1 : rxs.length = rn := hrl; have h2 : rxs.length = 2 := HDG.out.1; omega
      have HRW : Hid (Holds wr rA (nums rxs)) := Holds.below (w := w) hrow hb
      have HAT2 : Hid ((rowNums rs).getD j [] = rxs) := HAT.out
      have HDG2 : Hid (IsDg 8 rxs) := HDG.out
      clear hs hb hrow hrl hrn hR HAT HDG
      cases hl : leftBy bs t rxs
      · have HL := Lib.hid hl
        clear hl
        go_wp2_with fail
        refine (leaves_any rA rc rxs bs t _ HRW.out HDG2.out).mono ?_
        rintro e w1 ⟨rfl, hb1⟩
        rw [HL.out]
        have HB1 := Lib.hid (below_then HB.out hb1 HB.out.size)
        clear hb1
        go_wp2
        go_roundw
        case rel => exact ⟨j + 1, by omega, by go_num, fun x hx => by
          rcases Nat.lt_succ_iff_lt_or_eq.1 hx with h | rfl
          · exact HS.out x h
          · rw [HAT2.out]; exact HL.out, HB1.out⟩
        case measure => simp [intOf]; omega
      · have HL := Lib.hid hl
        have HAN : Hid ((rowNums rs).any (leftBy bs t) = true) := by
          show _ = _
          rw [List.any_eq_true]
          refine ⟨rxs, ?_, HL.out⟩
          rw [← HAT2.out, List.getD_eq_getElem?_getD, List.getElem?_eq_getElem (by rw [rowNums_len]; exact hlt)]
          exact List.getElem_mem _
        clear hl
        go_wp2_with fail
        refine (leaves_any rA rc rxs bs t _ HRW.out HDG2.out).mono ?_
        rintro e w1 ⟨rfl, hb1⟩
        rw [HL.out]
        have HB1 := Lib.hid (below_then HB.out hb1 HB.out.size)
        clear hb1
        go_wp2
        go_ret
        exact ⟨(j : Int), rfl, by rw [HAN.out]; simp, HB1.out⟩
    · have HAN : Hid ((rowNums rs).any (leftBy bs t) = false) := by
        show _ = _
        rw [List.any_eq_false]
        intro x hx
        obtain ⟨i, hi, rfl⟩ := List.getElem_of_mem hx
        have h := HS.out i (by rw [rowNums_len] at hi; omega)
        rw [List.getD_eq_getElem?_getD, List.getElem?_eq_getElem hi] at h
        simpa using h
      clear hs hb
      go_wp2
      go_ret
      exact ⟨-1, rfl, by rw [HAN.out]; rfl, HB.out⟩

set_option maxHeartbeats 800000 in
theorem containsFn_any (A : Option Addr) (n c : Nat) (rs : List RowV) (bs : List Bool) (t : Bool) (w : World) (hA : Grid w A rs) (hx : rs.length = n) (hn : n ≤ 1048576) (hd : DgAll (rowNums rs)) :
    Calls Try.prog 126 #[.slice A n c, leavesV bs t] w fun e w' => e = .returned (.bool ((rowNums rs).any (leftBy bs t))) ∧ Below w.heap.size w w' := by
  have HX := Lib.hid hx
  clear hx
  go_enter Try.func126, Try.ntmps126
  go_wp2_with fail
  refine (indexFn_any A n c rs bs t _ hA HX.out hn hd).mono ?_
  rintro e w1 ⟨r, rfl, hr, hb⟩
  have HR := Lib.hid hr
  clear hr
  go_wp2
  go_ret
  exact ⟨ret_of (by rw [← HR.out]; rfl), hb⟩

set_option maxHeartbeats 1600000 in
theorem isSafePlace_any (k s : Int) (A : Option Addr) (n c : Nat) (rs : List RowV) (bs : List Bool) (t : Bool) (w : World) (hA : Grid w A rs) (hx : rs.length = n) (hn : n ≤ 1048576) (hd : DgAll (rowNums rs)) :
    Calls Try.prog 90 #[.agg #[.int .i64 k, .slice A n c, .int .i64 s], .agg (placeCells bs t)] w fun e w' => e = .returned (.bool (!(rowNums rs).any (leftBy bs t))) ∧ Below w.heap.size w w' := by
  have HX := Lib.hid hx
  clear hx
  have h0 := (Whole.fresh w 54 #[.int .i64 k, .slice A n c, .int .i64 s]).alloc (.cells (placeCells bs t) 90)
  have h1 := Whole.fresh (w.alloc (.cells #[.int .i64 k, .slice A n c, .int .i64 s] 54)) 90 (placeCells bs t)
  rw [World.size_alloc] at h1
  have hA2 := (hA.below (below2 w (.cells #[.int .i64 k, .slice A n c, .int .i64 s] 54) (.cells (placeCells bs t) 90)))
  have HB := Lib.hid (below2 w (.cells #[.int .i64 k, .slice A n c, .int .i64 s] 54) (.cells (placeCells bs t) 90))
  obtain ⟨f0, f1, f2⟩ := h0.cells3
  go_enter Try.func90, Try.ntmps90
  go_wp2_with (first | (refine wpList_load_row rfl 90 (.tmp 3) rfl (w.heap.size + 1) rfl 90 (placeCells bs t) (0, 0) _ h1 Try.underlying90 rfl size_place ?_) | (go_at_call 126; refine (containsFn_any A n c rs bs t _ hA2 HX.out hn hd).mono ?_; rintro e w1 ⟨rfl, hb⟩))
  go_ret
  exact ⟨rfl, below_then HB.out hb (by simp; omega)⟩
end Go.Proofs.Ytkdjdnknhbmliaa

namespace Go.Proofs.Ytkdjdnknhbmliaa
open Go.RowKit

/-- What a call hands back that makes a list of lists and tells whether it did. -/
def BackPost (ls : List (List Int)) (ok : Bool) (w : World) (e : Ending) (w' : World) : Prop :=
  ∃ (A : Option Addr) (n c : Nat) (rs : List RowV), e = .returned (.tuple #[.slice A n c, .bool ok]) ∧ rowNums rs = ls ∧ rs.length = n ∧ FreeGrid w' w.heap.size w'.heap.size A rs ∧ Below w.heap.size w w'
theorem BackPost.no {w w' : World} (h : Below w.heap.size w w') : BackPost [] false w (.returned (.tuple #[.slice none 0 0, .bool false])) w' :=
  ⟨none, 0, 0, [], rfl, rfl, rfl, (Heads.nil w' w.heap.size).free, h⟩
theorem part_lens {w : World} {A : Option Addr} {rs : List RowV} (h : Grid w A rs) : part rs rs.length = ((rowNums rs).map List.length).sum := by
  rw [part_sum]
  have : ∀ ts : List RowV, (∀ r ∈ ts, r.xs.length = r.n) → ts.map RowV.n = (rowNums ts).map List.length := by
    intro ts ht
    simp only [rowNums, List.map_map]
    exact List.map_congr_left fun r hr => (ht r hr).symm
  rw [this rs fun r hr => (h.2 r hr).2.1]
theorem sum_lens {ls : List (List Int)} {k : Nat} (h : ∀ l ∈ ls, l.length ≤ k) : (ls.map List.length).sum ≤ k * ls.length := by
  induction ls with
  | nil => simp
  | cons l ls ih =>
    have h1 := h l (by simp)
    have h2 := ih fun x hx => h x (List.mem_cons_of_mem _ hx)
    rw [List.map_cons, List.sum_cons, List.length_cons, Nat.mul_succ]
    omega
end Go.Proofs.Ytkdjdnknhbmliaa

namespace Go.Proofs.Ytkdjdnknhbmliaa
open Go.RowKit

theorem below_undrewN {w w' : World} {j : Nat} (h : Below (w.drewN j).heap.size (w.drewN j) w') : Below w.heap.size w w' :=
  below_then (below_draws (Below.refl w.heap.size w) j) h (below_draws (Below.refl w.heap.size w) j).size
theorem whole_grown {w w' : World} {g : Nat} {ty : TypeId} {cs : Array Value} {row : Option Nat} (h : Whole w g ty cs) (hg : w.grownBy w' row) (hne : row ≠ some g) : Whole w' g ty cs := (hg.block g h.lt (fun e => hne e.symm)).trans h
theorem now_yes {bs : List Bool} {t : Bool} {ds : List (List Int)} {j : Nat} {d : List Int} (hj : j < ds.length) (hd : ds.getD j [] = d) (h : leftBy bs t d = true) : nowOf bs t (ds.take (j + 1)) = nowOf bs t (ds.take j) ++ [d] := by
  rw [List.getD_eq_getElem?_getD, List.getElem?_eq_getElem hj] at hd
  simp only [Option.getD_some] at hd
  rw [List.take_succ_eq_append_getElem hj, nowOf, List.filter_append, hd]
  simp [nowOf, h]
theorem now_no {bs : List Bool} {t : Bool} {ds : List (List Int)} {j : Nat} {d : List Int} (hj : j < ds.length) (hd : ds.getD j [] = d) (h : leftBy bs t d = false) : nowOf bs t (ds.take (j + 1)) = nowOf bs t (ds.take j) := by
  rw [List.getD_eq_getElem?_getD, List.getElem?_eq_getElem hj] at hd
  simp only [Option.getD_some] at hd
  rw [List.take_succ_eq_append_getElem hj, nowOf, List.filter_append, hd]
  simp [nowOf, h]
theorem now_some {bs : List Bool} {t : Bool} {ds : List (List Int)} : ds.any (leftBy bs t) = decide (0 < (nowOf bs t ds).length) := by
  by_cases h : ds.any (leftBy bs t) = true
  · rw [h]
    obtain ⟨d, hd, hl⟩ := List.any_eq_true.1 h
    have : d ∈ nowOf bs t ds := List.mem_filter.2 ⟨hd, hl⟩
    have := List.length_pos_of_mem this
    simp; omega
  · have h' : ds.any (leftBy bs t) = false := by simpa using h
    rw [h', nowOf, List.filter_eq_nil_iff.2 (by rw [List.any_eq_false] at h'; simpa using h')]
    rfl


set_option maxHeartbeats 1600000 in
theorem keAsked_any (k s : Int) (A B : Option Addr) (m c q z : Nat) (rs : List RowV) (bs : List Bool) (t : Bool) (w : World) (hA : Grid w A rs) (hB : Holds w B (bits bs)) (hx : rs.length = m) (hm : m ≤ 1048576) (hy : bs.length = q) (hq : q ≤ 1048576) :
    Calls Try.prog 87 #[.agg #[.int .i64 k, .slice A m c, .int .i64 s], .agg #[.slice B q z, .bool t]] w fun e w' => e = .returned (.bool (asked k s (rowNums rs) bs)) ∧ Below w.heap.size w w' := by
  have HX := Lib.hid hx
  have HY := Lib.hid hy
  have h0 := (Whole.fresh w 54 #[.int .i64 k, .slice A m c, .int .i64 s]).alloc (.cells #[.slice B q z, .bool t] 63)
  have h1 := Whole.fresh (w.alloc (.cells #[.int .i64 k, .slice A m c, .int .i64 s] 54)) 63 #[.slice B q z, .bool t]
  rw [World.size_alloc] at h1
  have hbw := below2 w (.cells #[.int .i64 k, .slice A m c, .int .i64 s] 54) (.cells #[.slice B q z, .bool t] 63)
  have hA2 := hA.below hbw
  have hB2 := hB.below hbw
  clear hx
  cases hk : keepOk k s (rowNums rs)
  · have HQ : Hid (asked k s (rowNums rs) bs = false) := by show _ = _; simp [asked, hk]
    have HK := Lib.hid hk
    clear hk hy
    go_enter Try.func87, Try.ntmps87
    go_wp2_with fail
    refine (keGood_any k s A m c rs _ hA2 HX.out hm).mono ?_
    rintro e w1 ⟨rfl, hb⟩
    rw [HK.out]
    have ht := below_then hbw hb (by simp; omega)
    go_wp2
    go_ret
    exact ⟨ret_of (by rw [HQ.out]; rfl), ht⟩
  · have HQ : Hid (asked k s (rowNums rs) bs = ((q : Int) == k)) := by
      show _ = _
      rw [asked, hk, hy, Bool.true_and]
      by_cases h : (q : Int) = k <;> simp [h]
    have HK := Lib.hid hk
    clear hk hy
    go_enter Try.func87, Try.ntmps87
    go_wp2_with fail
    refine (keGood_any k s A m c rs _ hA2 HX.out hm).mono ?_
    rintro e w1 ⟨rfl, hb⟩
    rw [HK.out]
    have ht := below_then hbw hb (by simp; omega)
    obtain ⟨f0, f1, f2⟩ := (h0.below hb).cells3
    obtain ⟨g0, g1, -, -⟩ := (h1.below hb).two
    go_wp2
    go_ret
    exact ⟨ret_of (by rw [HQ.out]; rfl), ht⟩

/-- What a call hands back that makes a list of lists. -/
def GridRes (ls : List (List Int)) (lo : Nat) (w : World) (e : Ending) (w' : World) : Prop :=
  ∃ (A : Option Addr) (c : Nat) (rs : List RowV), e = .returned (.slice A rs.length c) ∧ rowNums rs = ls ∧ Heads w' lo A c rs ∧ Below w.heap.size w w'

set_option maxHeartbeats 6400000 in
set_option maxRecDepth 100000 in
theorem keNow_any (k s : Int) (A B : Option Addr) (m c q z : Nat) (rs : List RowV) (bs : List Bool) (t : Bool) (w : World) (hA : Grid w A rs) (hB : Holds w B (bits bs)) (hx : rs.length = m) (hm : m ≤ 1048576) (hy : bs.length = q) (hq : q ≤ 1048576) (hd : ∀ d ∈ rowNums rs, IsDg (q : Int) d) :
    Calls Try.prog 88 #[.agg #[.int .i64 k, .slice A m c, .int .i64 s], .agg #[.slice B q z, .bool t]] w (GridRes (nowOf bs t (rowNums rs)) (w.heap.size + 1 + 1) w) := by
  obtain ⟨i0, hi, hz0, hz1, hz2⟩ := info_parts info_row
  have HI := Lib.hid hi
  have HZ0 := Lib.hid hz0
  have HZ1 := Lib.hid hz1
  have HZ2 := Lib.hid hz2
  clear hi hz0 hz1 hz2
  subst hx
  have HY := Lib.hid hy
  have HD := Lib.hid hd
  have HLS := Lib.hid (rowNums_len rs)
  have h0 := (Whole.fresh w 54 #[.int .i64 k, .slice A rs.length c, .int .i64 s]).alloc (.cells #[.slice B q z, .bool t] 63)
  have h1 := Whole.fresh (w.alloc (.cells #[.int .i64 k, .slice A rs.length c, .int .i64 s] 54)) 63 #[.slice B q z, .bool t]
  rw [World.size_alloc] at h1
  have hbw := below2 w (.cells #[.int .i64 k, .slice A rs.length c, .int .i64 s] 54) (.cells #[.slice B q z, .bool t] 63)
  have hA2 := hA.below hbw
  have hB2 := hB.below hbw

  have HG := Lib.hid hA
  have HBT := Lib.hid hB
  obtain ⟨f0, f1, f2⟩ := h0.cells3
  clear hA hB hA2 hB2 hy hd
  go_enter Try.func88, Try.ntmps88
  go_wp2
  go_loopw [5, 11] (fun v i wr => ∃ (j : Nat) (E : Option Addr) (d : Nat) (acc : List RowV), j ≤ rs.length ∧ i = .int .i64 j ∧ v = .slice E acc.length d ∧ rowNums acc = nowOf bs t ((rowNums rs).take j) ∧ Heads wr (w.heap.size + 1 + 1) E d acc ∧ Whole wr w.heap.size 54 #[.int .i64 k, .slice A rs.length c, .int .i64 s] ∧ Whole wr (w.heap.size + 1) 63 #[.slice B q z, .bool t] ∧ Below w.heap.size w wr) (fun _ i _ => rs.length - (intOf i).toNat)
  case atStart => exact ⟨0, none, 0, [], Nat.zero_le _, rfl, rfl, by simp [nowOf, rowNums], Heads.nil _ _, h0, h1, hbw⟩
  case round =>
    clear f0 f1 f2 h0 h1 hbw
    obtain ⟨j, E, d, acc, hj, rfl, rfl, hra, hh, h0, h1, hb⟩ := hrel
    have hacc : acc.length ≤ 1048576 := by have h2 := congrArg List.length hra; rw [rowNums_len] at h2; have h3 := nowOf_len bs t ((rowNums rs).take j); rw [List.length_take] at h3; omega
    have HRA := Lib.hid hra
    have HH := Lib.hid hh
    have HB := Lib.hid hb
    have H0 := Lib.hid h0
    have H1 := Lib.hid h1
    by_cases hlt : j < rs.length
    · have hw0 := h0.lt
      have hw1 := h1.lt
      obtain ⟨b, o, rfl, hbl, hcell, hrow, hrl, hrn⟩ := grid_row HG.out hlt
      replace hcell := (hb.cell (p := ⟨b, o + j, none⟩) hbl).trans hcell
      have HAT := Lib.hid (rows_at rs hlt)
      have HJ : Hid (j < (rowNums rs).length) := by show _ < _; rw [HLS.out]; exact hlt
      have HDG : Hid (IsDg (q : Int) rs[j].xs) := HD.out _ (by rw [← HAT.out, List.getD_eq_getElem?_getD, List.getElem?_eq_getElem HJ.out]; exact List.getElem_mem _)
      obtain ⟨R, hR⟩ : ∃ R, R = rs[j] := ⟨_, rfl⟩
      rw [← hR] at hcell hrow hrl hrn HAT HDG
      obtain ⟨rA, rn, rc, rxs⟩ := R
      replace hcell : World.cell? wr ⟨b, o + j, none⟩ = some (.slice rA rn rc) := hcell
      obtain rfl : rn = 2 := by have h1 : rxs.length = rn := hrl; have h2 : rxs.length = 2 := HDG.out.1; omega
      have HRW : Hid (Holds wr rA (nums rxs)) := Holds.below (w := w) hrow hb
      have HRL : Hid (rxs.length = 2) := hrl
      have HAT2 : Hid ((rowNums rs).getD j [] = rxs) := HAT.out
      have HDG2 : Hid (IsDg (q : Int) rxs) := HDG.out
      obtain ⟨b2, o2, rfl, hbl2, a0, a1⟩ := two_at HRW.out HRL.out
      obtain ⟨f0, f1, f2⟩ := h0.cells3
      obtain ⟨g0, g1, -, -⟩ := h1.two
      have HYES := fun h => Lib.hid (now_yes (bs := bs) (t := t) HJ.out HAT2.out h)
      have HNO := fun h => Lib.hid (now_no (bs := bs) (t := t) HJ.out HAT2.out h)
      have HLB : Hid (leftBy bs t rxs = ((bs.getD (rxs.getD 0 0).toNat false != t) && (bs.getD (rxs.getD 1 0).toNat false != t))) := rfl
      obtain ⟨x0, hx0⟩ : ∃ x : Nat, rxs.getD 0 0 = x := ⟨(rxs.getD 0 0).toNat, by have := HDG2.out.2.1; omega⟩
      obtain ⟨x1, hx1⟩ : ∃ x : Nat, rxs.getD 1 0 = x := ⟨(rxs.getD 1 0).toNat, by have := HDG2.out.2.1; have := HDG2.out.2.2.1; omega⟩
      have hxq : x1 < q := by have := HDG2.out.2.2.2; omega
      have hxx : x0 < x1 := by have := HDG2.out.2.2.1; omega
      rw [hx0, hx1, Int.toNat_natCast, Int.toNat_natCast] at HLB
      rw [hx0] at a0
      rw [hx1] at a1
      have hx0q : (x0 : Int) < (q : Int) := by omega
      have hx1q : (x1 : Int) < (q : Int) := by omega
      obtain ⟨b3, o3, rfl, hbl3, c0⟩ := (HBT.out.below hb).look (k := x0) (by rw [bits_len, HY.out]; omega)
      obtain ⟨b4, o4, hB4, hbl4, c1⟩ := (HBT.out.below hb).look (k := x1) (by rw [bits_len, HY.out]; omega)
      simp only [Option.some.injEq, Addr.mk.injEq] at hB4
      obtain ⟨rfl, rfl, -⟩ := hB4
      have hu : bs[x0]? = some (bs.getD x0 false) := by rw [List.getD_eq_getElem?_getD, List.getElem?_eq_getElem (by have := HY.out; omega)]; rfl
      have hv : bs[x1]? = some (bs.getD x1 false) := by rw [List.getD_eq_getElem?_getD, List.getElem?_eq_getElem (by have := HY.out; omega)]; rfl
      have c0' : World.cell? wr ⟨b3, o3 + x0, none⟩ = some (.bool (bs.getD x0 false)) := by
        rw [c0]
        simp [bits, List.getD_eq_getElem?_getD, List.getElem?_eq_getElem (show x0 < bs.length by have := HY.out; omega)]
      have c1' : World.cell? wr ⟨b3, o3 + x1, none⟩ = some (.bool (bs.getD x1 false)) := by
        rw [c1]
        simp [bits, List.getD_eq_getElem?_getD, List.getElem?_eq_getElem (show x1 < bs.length by have := HY.out; omega)]
      clear c0 c1 hu hv hra hh hb h0 h1 hrow hrl hrn hR HAT hx0 hx1 HD HJ
      generalize bs.getD x0 false = u at *
      generalize bs.getD x1 false = v at *
      cases hl : leftBy bs t rxs
      · have HN := HNO hl
        rw [HLB.out] at hl
        clear HYES HNO HLB
        cases u <;> cases v <;> cases t
        all_goals first
          | (exfalso; revert hl; decide)
          | (clear hl
             go_wp2
             go_quiet (fail)
             go_wp2
             go_roundw
             case rel => exact ⟨j + 1, E, d, acc, by omega, by go_num, rfl, by rw [HN.out]; exact HRA.out, HH.out.below (below_draws (Below.refl _ _) _), H0.out.below (below_draws (Below.refl _ _) _), H1.out.below (below_draws (Below.refl _ _) _), below_draws HB.out _⟩
             case measure => simp [intOf]; omega)
      · have HN := HYES hl
        rw [HLB.out] at hl
        clear HYES HNO HLB
        have hbs : w.heap.size + 1 + 1 ≤ wr.heap.size := by omega
        cases u <;> cases v <;> cases t
        all_goals first
          | (exfalso; revert hl; decide)
          | (clear hl
             go_wp2
             go_quiet (fail)
             go_wp2_with fail
             refine (l1Own_any _ 2 rc rxs _ (by exact HRW.out.below (below_draws (Below.refl _ _) _)) HRL.out (by omega) (fun h => by cases h)).mono ?_
             rintro e w3 ⟨A2, q2, rfl, hown2, hb2⟩
             replace hb2 := below_undrewN hb2
             rw [HRL.out] at hown2 ⊢
             have hbs2 : wr.heap.size ≤ w3.heap.size := hb2.size
             have HOWN := Lib.hid ((HH.out.below hb2).alloc (.cells #[.slice A2 2 q2] 40)).1
             have HF := Lib.hid (Fresh.of_own (lo := wr.heap.size) hown2 (Nat.le_refl _))
             have HB2 := Lib.hid hb2
             have HMAX := Lib.hid (show acc.length + 1 ≤ maxLen by unfold maxLen; omega)
             have HBYT := Lib.hid (show (acc.length + 1) * 24 ≤ 140737488355328 by omega)
             have HBASE := Lib.hid (show w.heap.size + 1 + 1 ≤ (w3.alloc (.cells #[.slice A2 2 q2] 40)).heap.size by simp; omega)
             clear hown2 hb2 hcell a0 a1 f0 f1 f2 g0 g1 c0' c1'
             go_wp2_with (at_builtin; refine wpList_append_lies _ rfl (.tmp 37) (.tmp 40) 28 rfl (w.heap.size + 1 + 1) 40 i0 (.slice none 0 0) 1 24 Try.underlying28 HI.out HZ0.out HZ1.out HZ2.out rfl (by decide) (.slice E acc.length d) acc.length (rowVals acc) rfl HOWN.out ⟨w3.heap.size, 0, none⟩ 1 1 [.slice A2 2 q2] rfl rfl (cell_one_new _ _ _) (by simp [Value.oneCell']) (by decide) HMAX.out HBYT.out HBASE.out (w3.heap.size + 1) (by simp) ?_; intro g cap w4 hown4 hg4 hat hlt4)
             obtain ⟨A3, q3, hv3, hf3⟩ := HF.out
             simp only [Value.slice.injEq, true_and] at hv3
             obtain ⟨rfl, rfl⟩ := hv3
             have HP2 := Lib.hid (Heads.push (r := ⟨A2, 2, q2, rxs⟩) HH.out hbs HB2.out hf3 HRL.out (by show 2 ≤ _; omega) hown4 hg4 hat)
             have HBN := Lib.hid (((below_then HB.out HB2.out HB.out.size).alloc (by omega) (.cells #[.slice A2 2 q2] 40)).grown hg4 (by have := HBASE.out; omega) (fun kk hkk => by have := (HOWN.out.lt kk hkk).1; omega))
             have HH0 := Lib.hid (whole_grown ((H0.out.below HB2.out).alloc (.cells #[.slice A2 2 q2] 40)) hg4 (fun hkk => by have := (HOWN.out.lt _ hkk).1; omega))
             have HH1 := Lib.hid (whole_grown ((H1.out.below HB2.out).alloc (.cells #[.slice A2 2 q2] 40)) hg4 (fun hkk => by have := (HOWN.out.lt _ hkk).1; omega))
             clear hown4 hg4 hat hlt4 hf3
             go_roundw
             case rel => exact ⟨j + 1, some ⟨g, 0, none⟩, cap, acc ++ [⟨A2, 2, q2, rxs⟩], by omega, by go_num, by simp, by rw [HN.out, show rowNums (acc ++ [⟨A2, 2, q2, rxs⟩]) = rowNums acc ++ [rxs] by simp [rowNums], HRA.out], HP2.out, HH0.out, HH1.out, HBN.out⟩
             case measure => simp [intOf]; omega)
    · have hjn : j = rs.length := by omega
      have HR2 : Hid (rowNums acc = nowOf bs t (rowNums rs)) := by
        show _ = _
        rw [HRA.out, List.take_of_length_le (by rw [HLS.out]; omega)]
      clear hra hh h0 h1 HRA
      go_wp2
      go_ret
      exact ⟨E, d, acc, rfl, HR2.out, HH.out, HB.out⟩

end Go.Proofs.Ytkdjdnknhbmliaa

namespace Go.Proofs.Ytkdjdnknhbmliaa

/-- A list of truth values behind a number, as digits. -/
def num (bs : List Bool) (a : Nat) : Nat := bs.foldl (fun n b => 2 * n + b.toNat) a
theorem num_snoc (bs : List Bool) (b : Bool) (a : Nat) : num (bs ++ [b]) a = 2 * num bs a + b.toNat := by simp [num, List.foldl_append]
theorem num_cons (bs : List Bool) (b : Bool) (a : Nat) : num (b :: bs) a = num bs (2 * a + b.toNat) := rfl
theorem num_parts (bs : List Bool) : ∀ a, ∃ r, num bs a = a * 2 ^ bs.length + r ∧ r < 2 ^ bs.length := by
  induction bs with
  | nil => exact fun a => ⟨0, by simp [num], by simp⟩
  | cons b bs ih =>
    intro a
    obtain ⟨r, h1, h2⟩ := ih (2 * a + b.toNat)
    refine ⟨b.toNat * 2 ^ bs.length + r, ?_, ?_⟩
    · rw [num_cons, h1, List.length_cons, Nat.pow_succ, Nat.add_mul, Nat.mul_comm (2 ^ bs.length) 2, ← Nat.mul_assoc, Nat.mul_comm a 2, Nat.add_assoc]
    · rw [List.length_cons, Nat.pow_succ]
      cases b
      · simp; omega
      · simp; omega
theorem num_head (bs : List Bool) (a : Nat) : num bs a / 2 ^ bs.length = a := by
  obtain ⟨r, h1, h2⟩ := num_parts bs a
  rw [h1, Nat.mul_comm, Nat.mul_add_div (Nat.two_pow_pos _), Nat.div_eq_of_lt h2, Nat.add_zero]
theorem num_lt (bs : List Bool) (b : Bool) : num bs b.toNat < 2 ^ (bs.length + 1) := by
  obtain ⟨r, h1, h2⟩ := num_parts bs b.toNat
  rw [h1, Nat.pow_succ]
  cases b
  · simp; omega
  · simp; omega
/-- The digit of a person. -/
theorem num_digit (bs : List Bool) : ∀ (a k : Nat) (h : k < bs.length), num bs a / 2 ^ (bs.length - 1 - k) % 2 = bs[k].toNat := by
  induction bs with
  | nil => intro a k h; simp at h
  | cons b bs ih =>
    intro a k h
    rw [num_cons]
    cases k with
    | zero =>
      have : (b :: bs).length - 1 - 0 = bs.length := by simp
      rw [this, num_head]
      cases b <;> simp <;> omega
    | succ k =>
      have hk : k < bs.length := by simpa using h
      have : (b :: bs).length - 1 - (k + 1) = bs.length - 1 - k := by simp; omega
      rw [this, ih _ k hk]
      simp
/-- The digits of a number, n of them. -/
def digits (n i : Nat) : List Bool := (List.range n).map fun k => decide (i / 2 ^ (n - 1 - k) % 2 = 1)
theorem digits_len (n i : Nat) : (digits n i).length = n := by simp [digits]
theorem digits_num (bs : List Bool) (a : Nat) : digits bs.length (num bs a) = bs := by
  refine List.ext_getElem (digits_len _ _) fun k h1 h2 => ?_
  simp only [digits, List.getElem_map, List.getElem_range]
  rw [num_digit bs a k h2]
  cases bs[k] <;> rfl
theorem digits_succ (n i : Nat) : digits (n + 1) i = digits n (i / 2) ++ [decide (i % 2 = 1)] := by
  rw [digits, List.range_succ, List.map_append, digits]
  congr 1
  · refine List.map_congr_left fun k hk => ?_
    have hk := List.mem_range.1 hk
    rw [Nat.div_div_eq_div_mul, show n + 1 - 1 - k = n - 1 - k + 1 by omega, Nat.pow_succ, Nat.mul_comm (2 ^ (n - 1 - k)) 2]
  · simp
theorem num_digits : ∀ (n i : Nat), num (digits n i) (i / 2 ^ n) = i := by
  intro n
  induction n with
  | zero => intro i; simp [digits, num]
  | succ n ih =>
    intro i
    rw [digits_succ, num_snoc, show i / 2 ^ (n + 1) = i / 2 / 2 ^ n by rw [Nat.pow_succ, Nat.mul_comm, Nat.div_div_eq_div_mul], ih (i / 2)]
    rcases Nat.mod_two_eq_zero_or_one i with h | h <;> simp [h] <;> omega
end Go.Proofs.Ytkdjdnknhbmliaa

namespace Go.Proofs.Ytkdjdnknhbmliaa
open Go.RowKit

/-- The torch in a state's number. -/
def topBit (n x : Nat) : Bool := x / 2 ^ n == 1
/-- Behind the making of the state: its block and its list's. -/
def SeMade (n : Nat) (tb : Bool) (w : World) (v : Value) (wx : World) : Prop :=
  ∃ gs gb : Nat, v = .pointer (some ⟨gb, 0, none⟩) ∧ gs ≠ gb ∧ w.heap.size + 1 ≤ gs ∧ w.heap.size + 1 ≤ gb ∧ gs < wx.heap.size ∧
    Whole wx w.heap.size 33 #[.slice none 0 0, .bool false] ∧ Whole wx gb 33 #[.slice (some ⟨gs, 0, none⟩) n n, .bool tb] ∧ Whole wx gs 4 (bits (falses n)).toArray ∧ Below w.heap.size w wx

theorem top_int (n x : Nat) : ((x : Int) / 2 ^ n == 1) = topBit n x := by
  have h : (x : Int) / 2 ^ n = ((x / 2 ^ n : Nat) : Int) := by norm_cast
  rw [h, topBit]
  by_cases h : x / 2 ^ n = 1
  · simp [h]
  · have : ((x / 2 ^ n : Nat) : Int) ≠ 1 := by omega
    rw [beq_eq_false_iff_ne.2 this, beq_eq_false_iff_ne.2 h]
theorem digit_int (n x j : Nat) (hx : x < 1048576) (hj : j < n) : (Go.bits BinOp.and IntKind.i64 ((x : Int) / 2 ^ (n - 1 - j)) 1 == 1) = (digits n x)[j]'(by rw [digits_len]; exact hj) := by
  have h1 : x / 2 ^ (n - 1 - j) ≤ x := Nat.div_le_self _ _
  rw [shr_nat, show (1 : Int) = ((1 : Nat) : Int) from rfl, bits_and_nat _ 1 (by omega) (by omega), Nat.and_one_is_mod]
  simp only [digits, List.getElem_map, List.getElem_range]
  generalize x / 2 ^ (n - 1 - j) = y
  by_cases h : y % 2 = 1
  · simp [h]
  · have : y % 2 = 0 := by omega
    simp [this]
theorem se_ab (n : Nat) (tb : Bool) (w : World) : SeMade n tb w (.pointer (some ⟨w.heap.size + 1 + 1, 0, none⟩)) (((w.alloc (.cells #[.slice none 0 0, .bool false] 33)).alloc (.cells (bits (falses n)).toArray 4)).alloc (.cells #[.slice (some ⟨w.heap.size + 1, 0, none⟩) n n, .bool tb] 33)).drew := by
  refine ⟨w.heap.size + 1, w.heap.size + 1 + 1, rfl, by omega, Nat.le_refl _, by omega, by simp [World.drew], ?_, ?_, ?_, (below3 w _ _ _).drew⟩
  · exact (((Whole.fresh w _ _).alloc _).alloc _).drew
  · have h := Whole.fresh ((w.alloc (.cells #[.slice none 0 0, .bool false] 33)).alloc (.cells (bits (falses n)).toArray 4)) 33 #[.slice (some ⟨w.heap.size + 1, 0, none⟩) n n, .bool tb]
    simp only [World.size_alloc] at h
    exact h.drew
  · have h := (Whole.fresh (w.alloc (.cells #[.slice none 0 0, .bool false] 33)) 4 (bits (falses n)).toArray).alloc (.cells #[.slice (some ⟨w.heap.size + 1, 0, none⟩) n n, .bool tb] 33)
    simp only [World.size_alloc] at h
    exact h.drew
theorem se_ba (n : Nat) (tb : Bool) (w : World) : SeMade n tb w (.pointer (some ⟨w.heap.size + 1, 0, none⟩)) (((w.alloc (.cells #[.slice none 0 0, .bool false] 33)).alloc (.cells #[.slice (some ⟨w.heap.size + 1 + 1, 0, none⟩) n n, .bool tb] 33)).alloc (.cells (bits (falses n)).toArray 4)).drew := by
  refine ⟨w.heap.size + 1 + 1, w.heap.size + 1, rfl, by omega, by omega, Nat.le_refl _, by simp [World.drew], ?_, ?_, ?_, (below3 w _ _ _).drew⟩
  · exact (((Whole.fresh w _ _).alloc _).alloc _).drew
  · have h := (Whole.fresh (w.alloc (.cells #[.slice none 0 0, .bool false] 33)) 33 #[.slice (some ⟨w.heap.size + 1 + 1, 0, none⟩) n n, .bool tb]).alloc (.cells (bits (falses n)).toArray 4)
    simp only [World.size_alloc] at h
    exact h.drew
  · have h := Whole.fresh ((w.alloc (.cells #[.slice none 0 0, .bool false] 33)).alloc (.cells #[.slice (some ⟨w.heap.size + 1 + 1, 0, none⟩) n n, .bool tb] 33)) 4 (bits (falses n)).toArray
    simp only [World.size_alloc] at h
    exact h.drew

set_option maxHeartbeats 6400000 in
set_option maxRecDepth 100000 in
set_option linter.unusedSimpArgs false in
theorem seState_own (n x : Nat) (w : World) (hn : n ≤ 8) (hx : x < 1048576) :
    Calls Try.prog 127 #[.int .i64 x, .int .i64 n] w (fun e w' => ∃ (E : Option Addr) (r : Nat), e = .returned (.agg #[.slice E n r, .bool (topBit n x)]) ∧ Fresh w' w.heap.size w'.heap.size 4 E (bits (digits n x)) ∧ Below w.heap.size w w') := by
  obtain ⟨i0, hi, hz0, hz1, hz2⟩ := info_parts info_bool
  have hmk : ∀ W : World, (Instr.makeSlice 24 (.int .i64 (n : Int)) (.int .i64 (n : Int))).run Try.prog W = .ok (.slice (some ⟨W.heap.size, 0, none⟩) n n) (W.alloc (.cells (bits (falses n)).toArray 4)) := by
    intro W
    have h := run_make (P := Try.prog) W 24 4 i0 _ Try.underlying24 hi hz0 .i64 .i64 n n (by omega) (by omega) (by rw [hz2]; omega) (by omega)
    simp only [Int.toNat_natCast, hz1, made_falses] at h
    rw [h]
    rfl
  clear hi hz0 hz1 hz2
  have htb := top_int n x
  generalize topBit n x = tb at htb ⊢
  go_enter Try.func127, Try.ntmps127
  go_upto_region 1 with fail
  go_cut [5] (fun v wx => SeMade n tb w v wx)
  case first =>
    go_region_held3 (fun w' => True) (go_keep) (fail)
    all_goals (go_wp2_with fail; go_meet)
    all_goals first | exact se_ab n tb w | exact se_ba n tb w
  obtain ⟨gs, gb, rfl, hne, h1, h2, h3, hr, hsb, hsl, hb⟩ := hcut
  clear hmk htb
  obtain ⟨c0, c1, -, -⟩ := hsb.two
  go_wp2
  have HR := Lib.hid hr
  have HSB := Lib.hid hsb
  have HSL := Lib.hid hsl
  have HB := Lib.hid hb
  clear hr hsb hsl hb c0 c1
  go_loopw [17] (fun i wr => ∃ j : Nat, j ≤ n ∧ i = .int .i64 j ∧ Whole wr w.heap.size 33 #[.slice none 0 0, .bool false] ∧ Whole wr gb 33 #[.slice (some ⟨gs, 0, none⟩) n n, .bool tb] ∧ Whole wr gs 4 (filledB (digits n x) j) ∧ Below w.heap.size w wr) (fun i _ => n - (intOf i).toNat)
  case atStart => exact ⟨0, Nat.zero_le _, rfl, HR.out, HSB.out, by rw [show filledB (digits n x) 0 = (bits (falses n)).toArray by simp [filledB, digits_len, falses]]; exact HSL.out, HB.out⟩
  case round =>
    clear HR HSB HSL HB
    obtain ⟨j, hj, rfl, hr, hsb, hsl, hb⟩ := hrel
    by_cases hlt : j < n
    · obtain ⟨c0, c1, -, -⟩ := hsb.two
      have hnw : IntKind.i64.wrap ((n : Int) - 1) = (n : Int) - 1 := IntWalk.i64_in _ (by omega)
      have hnj : IntKind.i64.wrap ((n : Int) - 1 - (j : Int)) = ((n - 1 - j : Nat) : Int) := by rw [IntWalk.i64_in _ (by omega)]; omega
      have hlen : j < (digits n x).length := by rw [digits_len]; exact hlt
      have hcell := (hsl.cell j).trans (filledB_at (digits n x) hlen)
      have hfr := hsl.open_ j
      have hji : (j : Int) < (n : Int) := by omega
      have hsl0 := hsl.lt
      have hbit := digit_int n x j hx hlt
      have HNX := Lib.hid (filledB_next (digits n x) hlen)
      have HR := Lib.hid hr
      have HSB := Lib.hid hsb
      have HSL := Lib.hid hsl
      have HB := Lib.hid hb
      have hrl := hr.lt
      clear hr hsb hsl hb
      generalize (digits n x)[j] = b at hbit HNX
      go_wp2_with fail
      go_region_held3 (fun w' => w'.cell? ⟨gb, 0, none⟩ = some (.slice (some ⟨gs, 0, none⟩) n n)) (go_keep) (fail)
      go_wp2
      go_roundw
      case rel => exact ⟨j + 1, by omega, by go_num, (HR.out.off (by omega)).drew, (HSB.out.off (fun h => hne h.symm)).drew, (by have h := HSL.out.set_ j (.bool b); rw [HNX.out] at h; exact h.drew), (below_set HB.out (by omega)).drew⟩
      case measure => simp [intOf]; omega
    · obtain rfl : j = n := by omega
      have hd : decide ((j : Int) < (j : Int)) = false := by simp
      obtain ⟨d0, d1, -, -⟩ := hsb.two
      obtain ⟨e0, e1, f0, f1⟩ := hr.two
      have hl1 := hr.lt
      have hsl' : Whole wr gs 4 (bits (digits j x)).toArray := by
        have h := filledB_done (digits j x)
        rw [digits_len] at h
        rw [← h]
        exact hsl
      have HF := Lib.hid (Fresh.of_whole (lo := w.heap.size) (hi := wr.heap.size) ((hsl'.off (b := w.heap.size) (o := 0) (u := .slice (some ⟨gs, 0, none⟩) j j) (by omega)).off (b := w.heap.size) (o := 1) (u := .bool tb) (by omega)) (by omega) hsl'.lt)
      have HB := Lib.hid (below_set (b := w.heap.size) (o := 1) (u := .bool tb) (below_set (b := w.heap.size) (o := 0) (u := .slice (some ⟨gs, 0, none⟩) j j) hb (Nat.le_refl _)) (Nat.le_refl _))
      clear hr hsb hsl hsl' hb
      go_wp2
      refine bodyPost_ret (v := .agg #[.slice (some ⟨gs, 0, none⟩) j j, .bool tb]) (by simp [results, Try.results127, go_sem, e0, e1]) rfl ⟨some ⟨gs, 0, none⟩, j, rfl, ?_, HB.out⟩
      have h := HF.out
      simpa [World.setCell] using h
end Go.Proofs.Ytkdjdnknhbmliaa
