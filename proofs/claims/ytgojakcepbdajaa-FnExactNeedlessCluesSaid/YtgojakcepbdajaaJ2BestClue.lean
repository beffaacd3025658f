/-
  What is proved: contracts of a party without one person, as the model makes it; append onto a list of the call's own inside a region that draws. Conditions: the party's times are read as they lie.
  What is proved: contracts of the laws' own helpers for lists of lists of numbers: their size, their copy, their comparison. Conditions: the given lists are read as they lie; a copy is of at most 1,048,576 numbers.
  What is proved: contracts of the laws' copy and comparison of lists of lists of numbers. Conditions: the given lists are read as they lie; a copy is of at most 1,048,576 numbers.
  What is proved: the contract of a trip made by the model. Conditions: the trip is one.
  What is proved: the contract of trips made one after the other by the model. Conditions: the arguments are read as they lie; there is somebody.
  What is proved: the contract of the model's DropPerson. Conditions: the party's times are read as they lie.
  What is proved: the contract of the model's sorting (paSorted). Conditions: the list is read as it lies; at most 1,048,576 numbers.
  What is proved: plain facts on people in the order of their times, on the trips of two at once, and on an insertion sort. Conditions: none.
  What is proved: the contract of the model's prOrder: the people in the order of their times. Conditions: the times are read as they lie; at most 1,048,575 of them.
  What is proved: contracts of the program's sortBy at people with their times (slices.SortStableFunc at twelve at most), and plain facts on squads. Conditions: the people are read as they lie.
  What is proved: the contract of the program's sortBy at people with their times. Conditions: at most twelve people, read as they lie.
  What is proved: the contract of the program's squadOf: the people with some times in their order. Conditions: the times are read as they lie.
  What is proved: the contract of the program's squadOf: the people with some times in their order. Conditions: the times are read as they lie.
  What is proved: contracts of RankOfPace, of the model and of the program. Conditions: the times are read as they lie.
  What is proved: the contract of the program's fetchGain. Conditions: two people at least, times from 0 to 1000.
  What is proved: lists of lists of the call's own, and contracts of the laws' marks on them. Conditions: the rows are new, open to writes and apart from each other; counts are small.
  What is proved: contracts of the model's and the library's search for a number in a list. Conditions: the list is read as it lies.
  What is proved: a list of lists that the call makes row by row. Conditions: each new row is the call's own, in a range of blocks that no other one meets.
  What is proved: the contract of the library's search for the first place of a number that is in a list. Conditions: the list is read as it lies.
-/
import Derived.Deep.RegionHeld3
import Derived.Deep.DeepCutAuto
import Derived.Sort.Defs
import Derived.Shelf.SlSortCmp.InsertionK
import Derived.Lib.Small
import Derived.RegionTactic
import Derived.Deep.CutBlock
import Derived.WalkMore
import Derived.Deep.AppendLies
import Derived.Test.YtgojakcepbdajaaJ1BestClue
set_option linter.unusedSimpArgs false
set_option linter.unusedVariables false
namespace Go.Proofs.Ytgojakcepbdajaa
open Go.RowKit

/-- append onto a list of the call's own, as a step of a region that draws its order; nothing may be appended too. -/
theorem step_append_mine {P : Program} {ops : Array Oper} {o : Oper} {a : Act} {w : World} {K : Act → World → Prop} {Q : Exit → Act → World → Prop} {E : Prop}
    (hg : o.guard = none) (s x : Operand) (t : TypeId) (hop : o.op = Op.call { callee := Callee.builtin Builtin.append, args := #[s, x], argTypes := #[t, t] })
    (base : Nat) (e : TypeId) (i : TypeInfo) (z : Value) (size bytes : Nat) (h1 : P.underlying t = some (.slice e)) (h2 : P.info? e = some i) (h3 : i.zero = some z) (h4 : i.size = size) (h5 : i.bytes = bytes) (h6 : z.cells.size = size) (h7 : 0 < size)
    (v : Value) (n : Nat) (xs : List Value) (hs : a.eval s = v) (hown : w.ownsRow base e size v n xs)
    (ad : Addr) (m c : Nat) (news : List Value) (hx : a.eval x = .slice (some ad) m c) (hn : news.length = m * size) (hc : ∀ j u, news[j]? = some u → w.cell? (ad.add j) = some u) (h1c : ∀ u ∈ news, u.oneCell' = true)
    (b1 : n + m ≤ maxLen) (b2 : (n + m) * bytes ≤ 140737488355328) (b3 : base ≤ w.heap.size)
    (hK : ∀ v' w', w'.ownsRow base e size v' (n + m) (xs ++ news) → w.grownBy w' v.ownBlock → K (a.put o.dst v') w') :
    if Region.wanted o (yielded ops a.tmps) = true then Oper.wp P o a w K Q else E := by
  have hw : Region.wanted o (yielded ops a.tmps) = true := by simp [Region.wanted, hg]
  rw [if_pos hw]
  obtain ⟨v', w', hrun, r1, r2, _⟩ := run_append_own (P := P) w base t o.type e i z size bytes h1 h2 h3 h4 h5 h6 h7 v n xs hown ad m c news hn hc h1c b1 b2 b3
  unfold Oper.wp
  simp [execOp, hop, resolve, invoke, builtin, hs, hx, hrun, Result.andThen]
  exact hK v' w' r1 r2

/-- Whether there is a party without that person. -/
def dropOk (xs : List Int) (s k : Int) : Bool := isParty xs s && (within k 0 (xs.length - 1) && !decide ((xs.length : Int) = 1))
/-- The times without that person's. -/
def lessOne (xs : List Int) (k : Nat) : List Int := xs.take k ++ xs.drop (k + 1)
def dropXs (xs : List Int) (s k : Int) : List Int := if dropOk xs s k then lessOne xs k.toNat else []
def dropSeats (xs : List Int) (s k : Int) : Int := if dropOk xs s k then s else 0
theorem lessOne_le (xs : List Int) (k : Nat) : (lessOne xs k).length ≤ xs.length := by
  simp only [lessOne, List.length_append, List.length_take, List.length_drop]
  omega
theorem dropXs_le (xs : List Int) (s k : Int) : (dropXs xs s k).length ≤ xs.length := by
  rw [dropXs]
  split
  · exact lessOne_le _ _
  · simp
theorem drop_no {xs : List Int} {s k : Int} (h : dropOk xs s k = false) : dropXs xs s k = [] ∧ dropSeats xs s k = 0 := by simp [dropXs, dropSeats, h]
theorem drop_yes {xs : List Int} {s k : Int} (h : dropOk xs s k = true) : dropXs xs s k = lessOne xs k.toNat ∧ dropSeats xs s k = s := by simp [dropXs, dropSeats, h]
/-- Where the list behind a place lies: at the list's own address where no room is left behind that place. -/
theorem tail_at {w : World} {b o n c k : Nat} {xs : List Int} (hc : ∀ j u, (nums xs)[j]? = some u → w.cell? ⟨b, o + j, none⟩ = some u) (hx : xs.length = n) (hn : n ≤ c) :
    ∃ d, (if c = k + 1 then some (⟨b, o, none⟩ : Addr) else some ⟨b, o + (k + 1), none⟩) = some ⟨b, d, none⟩ ∧ Hid (∀ j u, (nums (xs.drop (k + 1)))[j]? = some u → w.cell? ⟨b, d + j, none⟩ = some u) := by
  by_cases h : c = k + 1
  · refine ⟨o, by simp [h], fun j u hu => ?_⟩
    have h0 : xs.drop (k + 1) = [] := List.drop_eq_nil_of_le (by omega)
    rw [h0] at hu
    simp [nums] at hu
  · refine ⟨o + (k + 1), by simp [h], fun j u hu => ?_⟩
    have := hc (k + 1 + j) u (by simpa [nums, List.getElem?_map, List.getElem?_drop] using hu)
    rw [show o + (k + 1) + j = o + (k + 1 + j) by omega]
    exact this
theorem head_at {w : World} {b o k : Nat} {xs : List Int} (hb : b < w.heap.size) (hc : ∀ j u, (nums xs)[j]? = some u → w.cell? ⟨b, o + j, none⟩ = some u) : Holds w (some ⟨b, o, none⟩) (nums (xs.take k)) := by
  refine .inr ⟨b, o, rfl, hb, fun j u hu => hc j u ?_⟩
  simp only [nums, List.getElem?_map, List.getElem?_take] at hu ⊢
  split at hu
  · exact hu
  · simp at hu

theorem dropOk_iff {xs : List Int} {s k : Int} : dropOk xs s k = true ↔ isParty xs s = true ∧ 0 ≤ k ∧ k < xs.length ∧ 2 ≤ xs.length := by
  simp only [dropOk, Bool.and_eq_true, Bool.not_eq_true', decide_eq_false_iff_not, within_iff]
  constructor
  · rintro ⟨h, h1, h2⟩
    exact ⟨h, by omega, by omega, by omega⟩
  · rintro ⟨h, h1, h2, h3⟩
    exact ⟨h, by omega, by omega⟩
end Go.Proofs.Ytgojakcepbdajaa

namespace Go.Proofs.Ytgojakcepbdajaa
open Go.RowKit

/-- One list among others: where it lies, its length, its room, its numbers. -/
structure RowV where
  A : Option Addr
  n : Nat
  c : Nat
  xs : List Int
def RowV.val (r : RowV) : Value := .slice r.A r.n r.c
def rowVals (rs : List RowV) : List Value := rs.map RowV.val
def rowNums (rs : List RowV) : List (List Int) := rs.map RowV.xs
theorem rowVals_len (rs : List RowV) : (rowVals rs).length = rs.length := by simp [rowVals]
theorem rowNums_len (rs : List RowV) : (rowNums rs).length = rs.length := by simp [rowNums]
def RowOk (w : World) (r : RowV) : Prop := Holds w r.A (nums r.xs) ∧ r.xs.length = r.n ∧ r.n ≤ 9223372036854775807
/-- From A on the world holds these lists. -/
def Grid (w : World) (A : Option Addr) (rs : List RowV) : Prop := Holds w A (rowVals rs) ∧ ∀ r ∈ rs, RowOk w r
theorem RowOk.below {w w' : World} {r : RowV} (h : RowOk w r) (hb : Below w.heap.size w w') : RowOk w' r := ⟨h.1.below hb, h.2⟩
theorem Grid.below {w w' : World} {A : Option Addr} {rs : List RowV} (h : Grid w A rs) (hb : Below w.heap.size w w') : Grid w' A rs := ⟨h.1.below hb, fun r hr => (h.2 r hr).below hb⟩
theorem Grid.alloc {w : World} {A : Option Addr} {rs : List RowV} (h : Grid w A rs) (o : Obj) : Grid (w.alloc o) A rs := h.below (below1 w o)
theorem Grid.drew {w : World} {A : Option Addr} {rs : List RowV} (h : Grid w A rs) : Grid w.drew A rs := h
theorem Grid.look {w : World} {A : Option Addr} {rs : List RowV} (h : Grid w A rs) {k : Nat} (hk : k < rs.length) :
    ∃ b o, A = some ⟨b, o, none⟩ ∧ b < w.heap.size ∧ w.cell? ⟨b, o + k, none⟩ = some (.slice rs[k].A rs[k].n rs[k].c) ∧ RowOk w rs[k] := by
  obtain ⟨b, o, hA, hb, hc⟩ := h.1.look (k := k) (by rw [rowVals_len]; exact hk)
  refine ⟨b, o, hA, hb, ?_, h.2 _ (List.getElem_mem hk)⟩
  rw [hc]
  simp [rowVals, RowV.val]

/-- The lengths of the first k lists together. -/
def part (rs : List RowV) (k : Nat) : Nat := ((rs.take k).map RowV.n).sum
/-- The length and all lengths together. -/
def total (rs : List RowV) : Nat := rs.length + part rs rs.length
theorem part_zero (rs : List RowV) : part rs 0 = 0 := rfl
theorem part_next {rs : List RowV} {k : Nat} (hk : k < rs.length) : part rs (k + 1) = part rs k + rs[k].n := by
  rw [part, part, List.take_succ_eq_append_getElem hk, List.map_append, List.sum_append]
  simp
theorem part_le {rs : List RowV} : ∀ {k : Nat}, k ≤ rs.length → ∀ {j : Nat}, j ≤ k → part rs j ≤ part rs k
  | 0, _, j, hj => by obtain rfl : j = 0 := by omega
                      exact Nat.le_refl _
  | k + 1, hk, j, hj => by
    rcases Nat.lt_or_ge j (k + 1) with h | h
    · have h1 := part_le (rs := rs) (k := k) (by omega) (j := j) (by omega)
      have h2 := part_next (rs := rs) (k := k) (by omega)
      omega
    · obtain rfl : j = k + 1 := by omega
      exact Nat.le_refl _
theorem total_row {rs : List RowV} {k : Nat} (hk : k < rs.length) : rs[k].n ≤ total rs := by
  have h1 := part_next hk
  have h2 := part_le (rs := rs) (Nat.le_refl _) (j := k + 1) (by omega)
  unfold total
  omega
theorem total_len (rs : List RowV) : rs.length ≤ total rs := by unfold total; omega
def totalLeft (rs : List RowV) (l : Int) : Int := if l < (total rs : Int) then -1 else l - (total rs : Int)
theorem totalLeft_no {rs : List RowV} {l : Int} {k : Nat} (hk : k ≤ rs.length) (h : l < (rs.length : Int) + (part rs k : Int)) : totalLeft rs l = -1 := by
  have h2 := part_le (rs := rs) (Nat.le_refl _) (j := k) hk
  rw [totalLeft, if_pos (by unfold total; omega)]
theorem totalLeft_yes {rs : List RowV} {l : Int} (h : (rs.length : Int) + (part rs rs.length : Int) ≤ l) : totalLeft rs l = l - ((rs.length : Int) + (part rs rs.length : Int)) := by
  rw [totalLeft, if_neg (by unfold total; omega)]
  unfold total
  omega

end Go.Proofs.Ytgojakcepbdajaa

namespace Go.Proofs.Ytgojakcepbdajaa
open Go.RowKit

/-- Lists of the call's own, each in blocks behind those of the one before. -/
def OwnRows (w : World) : Nat → Nat → List RowV → Prop
  | lo, hi, [] => lo ≤ hi
  | lo, hi, r :: rs => ∃ mid, lo ≤ mid ∧ Fresh w lo mid 3 r.A (nums r.xs) ∧ r.xs.length = r.n ∧ r.n ≤ 1048576 ∧ OwnRows w mid hi rs
theorem OwnRows.le {w : World} : ∀ {rs : List RowV} {lo hi : Nat}, OwnRows w lo hi rs → lo ≤ hi
  | [], _, _, h => h
  | _ :: _, _, _, ⟨_, h1, _, _, _, h2⟩ => Nat.le_trans h1 h2.le
theorem OwnRows.more {w : World} : ∀ {rs : List RowV} {lo hi hi' : Nat}, OwnRows w lo hi rs → hi ≤ hi' → OwnRows w lo hi' rs
  | [], _, _, _, h, h' => Nat.le_trans h h'
  | _ :: _, _, _, _, ⟨m, h1, hf, hl, hn, h2⟩, h' => ⟨m, h1, hf, hl, hn, h2.more h'⟩
theorem OwnRows.below {w w' : World} (hb : Below w.heap.size w w') : ∀ {rs : List RowV} {lo hi : Nat}, OwnRows w lo hi rs → OwnRows w' lo hi rs
  | [], _, _, h => h
  | _ :: _, _, _, ⟨m, h1, hf, hl, hn, h2⟩ => ⟨m, h1, hf.below hb, hl, hn, h2.below hb⟩
theorem OwnRows.set_out {w : World} {b o : Nat} {u : Value} : ∀ {rs : List RowV} {lo hi : Nat}, OwnRows w lo hi rs → (b < lo ∨ hi ≤ b) → OwnRows (w.setCell ⟨b, o, none⟩ u) lo hi rs
  | [], _, _, h, _ => h
  | _ :: _, _, _, ⟨m, h1, hf, hl, hn, h2⟩, hd => ⟨m, h1, hf.set_out (by have := h2.le; omega), hl, hn, h2.set_out (by omega)⟩
theorem OwnRows.snoc {w : World} {r : RowV} : ∀ {rs : List RowV} {lo mid hi : Nat}, OwnRows w lo mid rs → mid ≤ hi → Fresh w mid hi 3 r.A (nums r.xs) → r.xs.length = r.n → r.n ≤ 1048576 → OwnRows w lo hi (rs ++ [r])
  | [], _, _, hi, h, hm, hf, hl, hn => ⟨hi, Nat.le_trans h hm, hf.more h (Nat.le_refl _), hl, hn, Nat.le_refl _⟩
  | _ :: _, _, _, _, ⟨m, h1, hg, hk, ho, h2⟩, hm, hf, hl, hn => ⟨m, h1, hg, hk, ho, h2.snoc hm hf hl hn⟩
theorem OwnRows.ok {w : World} : ∀ {rs : List RowV} {lo hi : Nat}, OwnRows w lo hi rs → ∀ r ∈ rs, RowOk w r
  | [], _, _, _, _, hr => by cases hr
  | r :: rs, _, _, ⟨_, _, hf, hl, hn, h2⟩, x, hx => by
    rcases List.mem_cons.1 hx with rfl | hx
    · exact ⟨hf.holds, hl, by omega⟩
    · exact h2.ok x hx
/-- Lists of lists of the call's own: block g tells where they lie, the lists are behind it and before hi. -/
def OwnGrid (w : World) (g hi : Nat) (rs : List RowV) : Prop := Whole w g 25 (rowVals rs).toArray ∧ OwnRows w (g + 1) hi rs
theorem OwnGrid.grid {w : World} {g hi : Nat} {rs : List RowV} (h : OwnGrid w g hi rs) : Grid w (some ⟨g, 0, none⟩) rs :=
  ⟨h.1.holds, h.2.ok⟩
theorem OwnGrid.below {w w' : World} {g hi : Nat} {rs : List RowV} (h : OwnGrid w g hi rs) (hb : Below w.heap.size w w') : OwnGrid w' g hi rs := ⟨h.1.below hb, h.2.below hb⟩
theorem OwnGrid.alloc {w : World} {g hi : Nat} {rs : List RowV} (h : OwnGrid w g hi rs) (o : Obj) : OwnGrid (w.alloc o) g hi rs := h.below (below1 w o)
theorem OwnGrid.drew {w : World} {g hi : Nat} {rs : List RowV} (h : OwnGrid w g hi rs) : OwnGrid w.drew g hi rs := h.below ⟨rfl, rfl, rfl, Nat.le_refl _, fun _ _ => rfl⟩

/-- What stands in the copy's block behind k rounds. -/
def filledR (ws : List RowV) (n : Nat) : Array Value := (rowVals ws ++ List.replicate (n - ws.length) (Value.slice none 0 0)).toArray
theorem filledR_done {ws : List RowV} {n : Nat} (h : ws.length = n) : filledR ws n = (rowVals ws).toArray := by simp [filledR, h]
theorem filledR_at {ws : List RowV} {n : Nat} (h : ws.length < n) : (filledR ws n)[ws.length]? = some (.slice none 0 0) := by
  simp only [filledR, List.getElem?_toArray]
  rw [List.getElem?_append_right (by rw [rowVals_len]; omega)]
  simp [rowVals_len, List.getElem?_replicate]
  omega
theorem filledR_next {ws : List RowV} {n : Nat} (r : RowV) (h : ws.length < n) : (filledR ws n).setIfInBounds ws.length r.val = filledR (ws ++ [r]) n := by
  obtain ⟨m, hm⟩ : ∃ m, n - ws.length = m + 1 := ⟨n - ws.length - 1, by omega⟩
  have hm' : n - (ws ++ [r]).length = m := by simp; omega
  unfold filledR
  rw [hm, hm', List.replicate_succ]
  simp only [rowVals, List.map_append, List.map_cons, List.map_nil, List.append_assoc, List.singleton_append]
  rw [List.setIfInBounds_toArray]
  congr 1
  rw [List.set_append_right _ _ (by simp)]
  simp
theorem made_rows (n : Nat) : madeCells (Value.slice none 0 0).cells (n * 1) = (List.replicate n (Value.slice none 0 0)).toArray := by
  apply Array.ext_getElem?
  intro j
  simp [madeCells, Value.cells, Nat.mod_one, Array.getElem?_range]
  by_cases h : j < n <;> simp [h]
theorem info_row : (Try.prog.info? 25).map (fun i => (i.zero, i.size, i.bytes)) = some (some (.slice none 0 0), 1, 24) := by kernel_rfl

/-- What toIntSS hands back. -/
def GridPost (n : Nat) (rs : List RowV) (w : World) (e : Ending) (w' : World) : Prop :=
  ∃ (g : Nat) (ws : List RowV), e = .returned (.slice (some ⟨g, 0, none⟩) n n) ∧ w.heap.size ≤ g ∧ OwnGrid w' g w'.heap.size ws ∧ rowNums ws = rowNums rs ∧ ws.length = n ∧ Below w.heap.size w w'

theorem rowNums_next {ws rs : List RowV} {k : Nat} {r : RowV} (h : rowNums ws = (rowNums rs).take k) (hk : k < rs.length) (hr : r.xs = rs[k].xs) : rowNums (ws ++ [r]) = (rowNums rs).take (k + 1) := by
  rw [List.take_succ_eq_append_getElem (by rw [rowNums_len]; exact hk), ← h]
  simp [rowNums, hr]

/-- Two lists of one reading are the same; nothing but draws. -/
theorem eqIntS_drawn (A B : Option Addr) (n m c d : Nat) (xs ys : List Int) (w : World) (k : Nat) (hA : Holds (w.drewN k) A (nums xs)) (hB : Holds (w.drewN k) B (nums ys)) (hx : xs.length = n) (hy : ys.length = m) (he : xs = ys) (hn : n ≤ 9223372036854775807) :
    Calls Try.prog 14 #[.slice A n c, .slice B m d] (w.drewN k) fun e w'' => e = .returned (.bool true) ∧ ∃ q, w'' = w.drewN q :=
  Calls.quiet_of ((eqIntS_any A B n m c d xs ys _ hA hB hx hy hn (by subst he; omega)).mono fun _ _ ⟨h, q⟩ => ⟨by rw [h, sameInts_yes he], q⟩)

theorem rowNums_at {rs ss : List RowV} (h : rowNums rs = rowNums ss) {k : Nat} (hk : k < rs.length) (hk' : k < ss.length) : rs[k].xs = ss[k].xs := by
  have h1 := congrArg (fun l : List (List Int) => l[k]?) h
  simpa [rowNums, hk, hk'] using h1

end Go.Proofs.Ytgojakcepbdajaa

namespace Go.Proofs.Ytgojakcepbdajaa
open Go.RowKit

theorem Fresh.turn {w : World} {lo hi k : Nat} {ty : TypeId} {A : Option Addr} {xs : List Value} (hf : Fresh w lo hi ty A xs) (hk : k < xs.length) :
    ∃ g u, A = some ⟨g, 0, none⟩ ∧ lo ≤ g ∧ g < hi ∧ g < w.heap.size ∧ w.cell? ⟨g, k, none⟩ = some u ∧ w.frozen? ⟨g, k, none⟩ = false ∧ ∀ v, Fresh (w.setCell ⟨g, k, none⟩ v) lo hi ty A (xs.set k v) := by
  rcases hf with rfl | ⟨g, cs, hA, h1, h2, hw, h3, h4⟩
  · simp at hk
  · refine ⟨g, cs[k]'(by omega), hA, h1, h2, hw.lt, (hw.cell k).trans (by simp), hw.open_ k, fun v => .inr ⟨g, _, hA, h1, h2, hw.set_ k v, by simpa using h3, ?_⟩⟩
    rw [List.length_set, Array.toList_setIfInBounds, ← h4, List.take_set, List.length_take]
    congr 2
    simp only [Array.length_toList]
    omega

end Go.Proofs.Ytgojakcepbdajaa

namespace Go.Proofs.Ytgojakcepbdajaa
open Go.RowKit

theorem Holds.spot {w : World} {A : Option Addr} {xs : List Value} (h : Holds w A xs) (h0 : 0 < xs.length) : ∃ b o, A = some ⟨b, o, none⟩ ∧ b < w.heap.size ∧ ∀ j u, xs[j]? = some u → w.cell? ⟨b, o + j, none⟩ = some u := by
  rcases h with rfl | h
  · simp at h0
  · exact h
/-- The places lie in a block that is old or new, but none of the call's own first three. -/
def Apart (B : Nat) (w : World) (A : Option Addr) (xs : List Value) : Prop := ∃ b o, A = some ⟨b, o, none⟩ ∧ b < w.heap.size ∧ (b < B ∨ B + 1 + 1 + 1 ≤ b) ∧ ∀ j u, xs[j]? = some u → w.cell? ⟨b, o + j, none⟩ = some u
theorem Apart.holds {B : Nat} {w : World} {A : Option Addr} {xs : List Value} (h : Apart B w A xs) : Holds w A xs := by
  obtain ⟨b, o, hA, hb, -, hc⟩ := h
  exact .inr ⟨b, o, hA, hb, hc⟩
theorem Apart.below {B : Nat} {w w' : World} {A : Option Addr} {xs : List Value} (h : Apart B w A xs) (hb : Below w.heap.size w w') : Apart B w' A xs := by
  obtain ⟨b, o, hA, hl, hd, hc⟩ := h
  exact ⟨b, o, hA, Nat.lt_of_lt_of_le hl hb.size, hd, fun j u hu => (hb.cell (p := ⟨b, o + j, none⟩) hl).trans (hc j u hu)⟩
theorem Apart.set {B g i : Nat} {w : World} {A : Option Addr} {xs : List Value} (h : Apart B w A xs) (hg : B ≤ g ∧ g ≤ B + 1 + 1) (v : Value) : Apart B (w.setCell ⟨g, i, none⟩ v) A xs := by
  obtain ⟨b, o, hA, hl, hd, hc⟩ := h
  refine ⟨b, o, hA, by simpa [World.setCell] using hl, hd, fun j u hu => ?_⟩
  have h1 := hc j u hu
  have h2 := Below.heap_setCell w ⟨g, i, none⟩ v b (by show b ≠ g; omega)
  simp only [World.cell?] at h1 ⊢
  rw [h2]
  exact h1

/-- What paPlay hands back. -/
def PlayPost (n : Nat) (s : Int) (bs : List Bool) (t : Bool) (ls : List (List Int)) (m : Nat) (w : World) (e : Ending) (w' : World) : Prop :=
  ∃ (A : Option Addr) (c : Nat), e = .returned (.tuple #[.agg #[.slice A m c, .bool (ended n s bs t ls).2], .int .i64 (made n s bs t ls)]) ∧ Holds w' A (bits (ended n s bs t ls).1) ∧ Below w.heap.size w w'

theorem rowNums_get {rs : List RowV} {k : Nat} (hk : k < rs.length) : (rowNums rs)[k]'(by rw [rowNums_len]; exact hk) = rs[k].xs := by simp [rowNums]

end Go.Proofs.Ytgojakcepbdajaa

namespace Go.Proofs.Ytgojakcepbdajaa
open Go.RowKit

end Go.Proofs.Ytgojakcepbdajaa

namespace Go.Proofs.Ytgojakcepbdajaa
open Go.RowKit

/-- The place at which a number goes among the first k of a list: behind the last one that is not greater. -/
def spot (l : List Int) (x : Int) : Nat → Nat
  | 0 => 0
  | k + 1 => if x < l.getD k 0 then spot l x k else k + 1
theorem spot_le (l : List Int) (x : Int) : ∀ k, spot l x k ≤ k
  | 0 => Nat.le_refl _
  | k + 1 => by
    rw [spot]
    split
    · have := spot_le l x k; omega
    · omega
theorem spot_down {l : List Int} {x : Int} {k : Nat} (h : x < l.getD k 0) : spot l x (k + 1) = spot l x k := if_pos h
theorem spot_here {l : List Int} {x : Int} {k : Nat} (h : ¬ x < l.getD k 0) : spot l x (k + 1) = k + 1 := if_neg h
def ins (l : List Int) (x : Int) : List Int := (l.take (spot l x l.length) ++ [x]) ++ l.drop (spot l x l.length)
theorem ins_len (l : List Int) (x : Int) : (ins l x).length = l.length + 1 := by
  have := spot_le l x l.length
  simp [ins]
  omega
def insTo (xs : List Int) (j : Nat) : List Int := (xs.take j).foldl ins []
theorem insTo_next {xs : List Int} {j : Nat} (h : j < xs.length) : insTo xs (j + 1) = ins (insTo xs j) xs[j] := by
  rw [insTo, List.take_succ_eq_append_getElem h, List.foldl_append]
  rfl
theorem insTo_len (xs : List Int) : ∀ {j : Nat}, j ≤ xs.length → (insTo xs j).length = j
  | 0, _ => rfl
  | j + 1, h => by rw [insTo_next h, ins_len, insTo_len xs (by omega)]
theorem own_lower {w : World} {base base' size : Nat} {e : TypeId} {v : Value} {n : Nat} {xs : List Value} (h : w.ownsRow base e size v n xs) (hb : base' ≤ base) : w.ownsRow base' e size v n xs := by
  obtain ⟨hl, h | ⟨g, cap, cur, hv, hg, r⟩⟩ := h
  · exact ⟨hl, .inl h⟩
  · exact ⟨hl, .inr ⟨g, cap, cur, hv, Nat.le_trans hb hg, r⟩⟩
theorem own_cells {w : World} {base : Nat} {e : TypeId} {g n c : Nat} {xs : List Value} (h : w.ownsRow base e 1 (.slice (some ⟨g, 0, none⟩) n c) n xs) : g < w.heap.size ∧ base ≤ g ∧ ∀ j u, xs[j]? = some u → w.cell? ⟨g, j, none⟩ = some u := by
  obtain ⟨hl, ⟨hv, -⟩ | ⟨g', cap, cur, hv, hg, hh, h1, h2, h3, h4⟩⟩ := h
  · cases hv
  · obtain ⟨rfl, rfl⟩ : g = g' ∧ c = cap := by simpa using hv
    have hw : Whole w g e cur := hh
    refine ⟨hw.lt, hg, fun j u hu => ?_⟩
    have hj : j < xs.length := (List.getElem?_eq_some_iff.1 hu).1
    rw [hw.cell j, ← hu]
    rw [hl] at hj
    have hj' : j < n := by omega
    have := congrArg (fun l : List Value => l[j]?) h4
    simpa [List.getElem?_take, hj, hj'] using this
theorem own_below {w w' : World} {base : Nat} {e : TypeId} {size : Nat} {v : Value} {n : Nat} {xs : List Value} (h : w.ownsRow base e size v n xs) (hb : Below w.heap.size w w') : w'.ownsRow base e size v n xs := by
  obtain ⟨hl, h | ⟨g, cap, cur, hv, hg, hh, r⟩⟩ := h
  · exact ⟨hl, .inl h⟩
  · exact ⟨hl, .inr ⟨g, cap, cur, hv, hg, (hb.block g (Array.getElem?_eq_some_iff.1 hh).1).trans hh, r⟩⟩

theorem cell_grown {w w' : World} {row : Option Nat} {g i : Nat} (h : w.grownBy w' row) (hl : g < w.heap.size) (hn : row ≠ some g) : w'.cell? ⟨g, i, none⟩ = w.cell? ⟨g, i, none⟩ := by
  have h1 := h.block g hl (fun e => hn e.symm)
  simp only [World.cell?, h1]

end Go.Proofs.Ytgojakcepbdajaa

namespace Go.Proofs.Ytgojakcepbdajaa
open Go.RowKit

theorem spot_lowQ {l : List Int} {x : Int} (hs : l.Pairwise (· ≤ ·)) : ∀ {k i : Nat}, k ≤ l.length → i < spot l x k → ∀ (h : i < l.length), l[i] ≤ x
  | 0, i, _, hi, _ => by simp [spot] at hi
  | k + 1, i, hk, hi, h => by
    by_cases hx : x < l.getD k 0
    · rw [spot_down hx] at hi
      exact spot_lowQ hs (by omega) hi h
    · rw [spot_here hx] at hi
      have hkl : k < l.length := by omega
      have hkx : l[k] ≤ x := by
        have : l.getD k 0 = l[k] := by simp [hkl]
        omega
      rcases Nat.lt_or_ge i k with h1 | h1
      · exact Int.le_trans (List.pairwise_iff_getElem.1 hs i k h hkl h1) hkx
      · obtain rfl : i = k := by omega
        exact hkx
theorem spot_highQ {l : List Int} {x : Int} : ∀ {k i : Nat}, spot l x k ≤ i → i < k → ∀ (h : i < l.length), x < l[i]
  | 0, i, _, hi, _ => by omega
  | k + 1, i, hs, hi, h => by
    by_cases hx : x < l.getD k 0
    · rw [spot_down hx] at hs
      rcases Nat.lt_or_ge i k with h1 | h1
      · exact spot_highQ hs h1 h
      · obtain rfl : i = k := by omega
        have : l.getD i 0 = l[i] := by simp [h]
        omega
    · rw [spot_here hx] at hs
      omega
theorem ins_permQ (l : List Int) (x : Int) : (ins l x).Perm (x :: l) := by
  have h := List.perm_middle (a := x) (l₁ := l.take (spot l x l.length)) (l₂ := l.drop (spot l x l.length))
  rw [List.take_append_drop] at h
  simpa [ins] using h
theorem ins_sortedQ {l : List Int} (x : Int) (hs : l.Pairwise (· ≤ ·)) : (ins l x).Pairwise (· ≤ ·) := by
  rw [ins, List.append_assoc, List.pairwise_append]
  refine ⟨hs.sublist (List.take_sublist _ _), ?_, fun a ha b hb => ?_⟩
  · rw [List.singleton_append, List.pairwise_cons]
    refine ⟨fun b hb => ?_, hs.sublist (List.drop_sublist _ _)⟩
    obtain ⟨i, hi, rfl⟩ := List.getElem_of_mem hb
    rw [List.getElem_drop]
    exact Int.le_of_lt (spot_highQ (k := l.length) (by omega) (by simp at hi; omega) (by simp at hi; omega))
  · obtain ⟨i, hi, rfl⟩ := List.getElem_of_mem ha
    rw [List.getElem_take]
    have hip : i < spot l x l.length := by simp at hi; omega
    have hil : i < l.length := by simp at hi; omega
    have hlx := spot_lowQ hs (Nat.le_refl _) hip hil
    rw [List.singleton_append, List.mem_cons] at hb
    rcases hb with rfl | hb
    · exact hlx
    · obtain ⟨j, hj, rfl⟩ := List.getElem_of_mem hb
      rw [List.getElem_drop]
      exact Int.le_of_lt (Int.lt_of_le_of_lt hlx (spot_highQ (k := l.length) (by omega) (by simp at hj; omega) (by simp at hj; omega)))
theorem insTo_sortedQ (xs : List Int) : ∀ {j : Nat}, j ≤ xs.length → (insTo xs j).Pairwise (· ≤ ·) ∧ (insTo xs j).Perm (xs.take j)
  | 0, _ => ⟨List.Pairwise.nil, List.Perm.refl _⟩
  | j + 1, h => by
    obtain ⟨h1, h2⟩ := insTo_sortedQ xs (j := j) (by omega)
    rw [insTo_next h]
    refine ⟨ins_sortedQ _ h1, (ins_permQ _ _).trans ?_⟩
    rw [List.take_succ_eq_append_getElem h]
    exact (h2.cons _).trans (List.perm_append_singleton _ _).symm

/-- The time of a person. -/
def tm (xs : List Int) (k : Int) : Int := xs.getD k.toNat 0
/-- The place at which a person goes among the first k of an order. -/
def spotO (xs o : List Int) (t : Int) (k : Nat) : Nat := spot (o.map (tm xs)) t k
def insO (xs o : List Int) (i t : Int) : List Int := (o.take (spotO xs o t o.length) ++ [i]) ++ o.drop (spotO xs o t o.length)
def ordTo (xs : List Int) (j : Nat) : List Int := (List.range j).foldl (fun o (i : Nat) => insO xs o (i : Int) (tm xs (i : Int))) []
theorem ordTo_next (xs : List Int) (j : Nat) : ordTo xs (j + 1) = insO xs (ordTo xs j) j (tm xs j) := by
  rw [ordTo, List.range_succ, List.foldl_append]
  rfl
theorem spotO_le (xs o : List Int) (t : Int) (k : Nat) : spotO xs o t k ≤ k := spot_le _ _ _
theorem spotO_down {xs o : List Int} {t : Int} {k : Nat} (hk : k < o.length) (h : t < tm xs (o.getD k 0)) : spotO xs o t (k + 1) = spotO xs o t k := by
  refine spot_down ?_
  simpa [hk] using h
theorem spotO_here {xs o : List Int} {t : Int} {k : Nat} (hk : k < o.length) (h : ¬ t < tm xs (o.getD k 0)) : spotO xs o t (k + 1) = k + 1 := by
  refine spot_here ?_
  simpa [hk] using h
theorem insO_len (xs o : List Int) (i t : Int) : (insO xs o i t).length = o.length + 1 := by
  have := spotO_le xs o t o.length
  simp [insO]
  omega
theorem ordTo_len (xs : List Int) : ∀ j, (ordTo xs j).length = j
  | 0 => rfl
  | j + 1 => by rw [ordTo_next, insO_len, ordTo_len xs j]
theorem insO_map {xs o : List Int} {i : Int} : (insO xs o i (tm xs i)).map (tm xs) = ins (o.map (tm xs)) (tm xs i) := by
  simp [insO, ins, spotO]
theorem tm_at {xs : List Int} {j : Nat} (h : j < xs.length) : tm xs (j : Int) = xs[j] := by simp [tm, h]
theorem ordTo_map (xs : List Int) : ∀ {j : Nat}, j ≤ xs.length → (ordTo xs j).map (tm xs) = insTo xs j
  | 0, _ => rfl
  | j + 1, h => by rw [ordTo_next, insO_map, ordTo_map xs (by omega), tm_at (by omega), insTo_next (by omega)]
theorem insO_perm (xs o : List Int) (i t : Int) : (insO xs o i t).Perm (i :: o) := by
  have h := List.perm_middle (a := i) (l₁ := o.take (spotO xs o t o.length)) (l₂ := o.drop (spotO xs o t o.length))
  rw [List.take_append_drop] at h
  simpa [insO] using h
theorem ordTo_mem (xs : List Int) : ∀ (j : Nat) (x : Int), x ∈ ordTo xs j ↔ 0 ≤ x ∧ x < j
  | 0, x => by simp [ordTo]; try omega
  | j + 1, x => by
    rw [ordTo_next, (insO_perm _ _ _ _).mem_iff, List.mem_cons, ordTo_mem xs j]
    omega
theorem ordTo_nodup (xs : List Int) : ∀ (j : Nat), (ordTo xs j).Nodup
  | 0 => by simp [ordTo]
  | j + 1 => by
    rw [ordTo_next, (insO_perm _ _ _ _).nodup_iff, List.nodup_cons]
    exact ⟨fun h => by have := (ordTo_mem xs j _).1 h; omega, ordTo_nodup xs j⟩
/-- The people in their order. -/
def ord (xs : List Int) : List Int := ordTo xs xs.length
theorem ord_len (xs : List Int) : (ord xs).length = xs.length := ordTo_len _ _
theorem ord_sorted (xs : List Int) : ((ord xs).map (tm xs)).Pairwise (· ≤ ·) := by
  rw [ord, ordTo_map xs (Nat.le_refl _)]
  exact (insTo_sortedQ xs (Nat.le_refl _)).1
theorem ord_mem {xs : List Int} {x : Int} (h : x ∈ ord xs) : 0 ≤ x ∧ x < xs.length := (ordTo_mem xs _ x).1 h
theorem ord_nodup (xs : List Int) : (ord xs).Nodup := ordTo_nodup xs _

/-! ### The insertion sort of an array of people with their times -/
abbrev Wk := Int × Int
/-- By the times alone. -/
def wlt (x y : Wk) : Bool := decide (x.2 < y.2)
def mk (xs o : List Int) : List Wk := o.map fun i => (i, tm xs i)
theorem mk_len (xs o : List Int) : (mk xs o).length = o.length := by simp [mk]
theorem mk_app (xs a b : List Int) : mk xs (a ++ b) = mk xs a ++ mk xs b := List.map_append
theorem mk_cons (xs a : List Int) (i : Int) : mk xs (i :: a) = (i, tm xs i) :: mk xs a := rfl
theorem get_list {α : Type} [Inhabited α] (d : Array α) (j : Nat) (x : α) (h : d.toList[j]? = some x) : d[j]! = x := by
  rw [Array.getElem?_toList] at h
  simp [getElem!_def, h]
theorem swp_list {d : Array Wk} {P R : List Wk} {x y : Wk} (h : d.toList = P ++ y :: x :: R) : (Go.Sort.swp d (P.length + 1) P.length).toList = P ++ x :: y :: R := by
  have hy : d[P.length]! = y := get_list _ _ _ (by rw [h]; simp)
  have hx : d[P.length + 1]! = x := get_list _ _ _ (by rw [h, List.getElem?_append_right (by omega)]; simp)
  simp only [Go.Sort.swp, Array.toList_setIfInBounds, hx, hy, h]
  rw [List.set_append_right _ _ (by omega), List.set_append_right _ _ (by omega)]
  simp
theorem inner_list (xs o : List Int) (i t : Int) (R : List Wk) : ∀ (j : Nat) (d : Array Wk), j ≤ o.length → d.toList = mk xs (o.take j) ++ (i, t) :: (mk xs (o.drop j) ++ R) →
    (Go.Sort.insInner wlt 0 j d).toList = mk xs (o.take (spotO xs o t j)) ++ (i, t) :: (mk xs (o.drop (spotO xs o t j)) ++ R)
  | 0, d, _, h => by simpa [Go.Sort.insInner, spotO, spot] using h
  | j + 1, d, hj, h => by
    have hjl : j < o.length := by omega
    have h1 : d.toList = mk xs (o.take j) ++ (o[j], tm xs o[j]) :: (i, t) :: (mk xs (o.drop (j + 1)) ++ R) := by
      rw [h, List.take_succ_eq_append_getElem hjl, mk_app, List.append_assoc]
      rfl
    have hl : (mk xs (o.take j)).length = j := by rw [mk_len]; simp; omega
    have hx : d[j + 1]! = (i, t) := get_list _ _ _ (by rw [h1, List.getElem?_append_right (by omega)]; simp [hl, show j + 1 - j = 1 by omega])
    have hy : d[j]! = (o[j], tm xs o[j]) := get_list _ _ _ (by rw [h1, List.getElem?_append_right (by omega)]; simp [hl])
    have hg : o.getD j 0 = o[j] := by simp [hjl]
    rw [Go.Sort.insInner, hx, hy]
    by_cases hlt : t < tm xs o[j]
    · rw [if_pos (by simp [wlt, hlt]), spotO_down hjl (by rw [hg]; exact hlt)]
      refine inner_list xs o i t R j _ (by omega) ?_
      have := swp_list h1
      rw [hl] at this
      rw [this, List.drop_eq_getElem_cons hjl, mk_cons]
      rfl
    · rw [if_neg (by simp [wlt]; omega), spotO_here hjl (by rw [hg]; exact hlt)]
      exact h
theorem outer_list (xs : List Int) (n : Nat) : ∀ (g i : Nat) (d : Array Wk), n - i ≤ g → i ≤ n → d.toList = mk xs (ordTo xs i) ++ mk xs ((List.range' i (n - i)).map Int.ofNat) →
    (Go.Sort.insOuter wlt 0 n i d).toList = mk xs (ordTo xs n)
  | 0, i, d, hg, hi, h => by
    obtain rfl : i = n := by omega
    rw [Go.Sort.insOuter, if_neg (by omega), h]
    simp [mk]
  | g + 1, i, d, hg, hi, h => by
    by_cases hlt : i < n
    · rw [Go.Sort.insOuter, if_pos hlt]
      refine outer_list xs n g (i + 1) _ (by omega) (by omega) ?_
      have hol := ordTo_len xs i
      obtain ⟨m, hm⟩ : ∃ m, n - i = m + 1 := ⟨n - i - 1, by omega⟩
      have hm' : n - (i + 1) = m := by omega
      have := inner_list xs (ordTo xs i) i (tm xs i) (mk xs ((List.range' (i + 1) m).map Int.ofNat)) i d (by omega) (by
        rw [h, hm, List.range'_succ, List.take_of_length_le (by omega), List.drop_eq_nil_of_le (by omega)]
        simp [mk])
      rw [this, hm', ordTo_next, insO, hol]
      simp [mk]
    · obtain rfl : i = n := by omega
      rw [Go.Sort.insOuter, if_neg (by omega), h]
      simp [mk]
/-- The sort puts the people in their order. -/
theorem sort_list (xs : List Int) (d : Array Wk) (h : d.toList = mk xs ((List.range xs.length).map Int.ofNat)) : (Go.Sort.insertionSort wlt d 0 xs.length).toList = mk xs (ord xs) := by
  rw [Go.Sort.insertionSort]
  cases hn : xs.length with
  | zero =>
    obtain rfl : xs = [] := List.length_eq_zero_iff.1 hn
    rw [Go.Sort.insOuter, if_neg (by simp), h]
    rfl
  | succ n =>
    have := outer_list xs (n + 1) n 1 d (by omega) (by omega) (by
      rw [h, hn, List.range_eq_range', List.range'_succ]
      simp [mk, ordTo, insO, spotO, spot])
    rw [show (0 : Nat) + 1 = 1 from rfl, this, ord, hn]

/-! ### The trips of two at once -/
/-- A trip: the fast one and the slow one. -/
abbrev Pt := Wk × Wk
def wk (W : List Wk) (k : Nat) : Wk := W.getD k (0, 0)
def gainOf (W : List Wk) (k : Nat) : Int := (wk W 0).2 + (wk W k).2 - 2 * (wk W 1).2
def round (f : Bool) (W : List Wk) (k : Nat) : List Pt :=
  if f && decide (0 < gainOf W k) then [(wk W 0, wk W 1), (wk W 0, wk W 0), (wk W k, wk W (k + 1)), (wk W 1, wk W 1)]
  else [(wk W 0, wk W (k + 1)), (wk W 0, wk W 0), (wk W 0, wk W k), (wk W 0, wk W 0)]
def lastT (W : List Wk) : Nat → List Pt
  | 1 => [(wk W 0, wk W 0)]
  | 2 => [(wk W 0, wk W 1)]
  | 3 => [(wk W 0, wk W 1), (wk W 0, wk W 0), (wk W 0, wk W 2)]
  | _ => []
/-- All trips while so many are not over. -/
def tripsT (f : Bool) (W : List Wk) : Nat → List Pt
  | 0 => []
  | 1 => lastT W 1
  | 2 => lastT W 2
  | 3 => lastT W 3
  | k + 4 => round f W (k + 2) ++ tripsT f W (k + 2)
/-- What is gained in the rounds. -/
def gainsT (W : List Wk) : Nat → List Int
  | 0 => []
  | 1 => []
  | 2 => []
  | 3 => []
  | k + 4 => gainOf W (k + 2) :: gainsT W (k + 2)
def isAlone (t : Pt) : Bool := t.1 == t.2
def listT (t : Pt) : List Int := if isAlone t then [t.1.1] else [min t.1.1 t.2.1, max t.1.1 t.2.1]
def timeT (ts : List Pt) : Int := (ts.map fun t => t.2.2).sum

/-- People with their times, in an order. -/
structure GoodW (xs : List Int) (W : List Wk) : Prop where
  own : ∀ k, k < W.length → (wk W k).2 = tm xs (wk W k).1 ∧ 0 ≤ (wk W k).1 ∧ (wk W k).1 < xs.length
  two : ∀ j k, j < k → k < W.length → (wk W j).2 ≤ (wk W k).2 ∧ (wk W j).1 ≠ (wk W k).1
theorem wk_mk {xs o : List Int} {k : Nat} (h : k < o.length) : wk (mk xs o) k = (o[k], tm xs o[k]) := by simp [wk, mk, h]
theorem good_ord (xs : List Int) : GoodW xs (mk xs (ord xs)) := by
  refine ⟨fun k hk => ?_, fun j k hjk hk => ?_⟩
  · rw [mk_len] at hk
    rw [wk_mk hk]
    exact ⟨rfl, ord_mem (List.getElem_mem hk)⟩
  · rw [mk_len] at hk
    rw [wk_mk hk, wk_mk (by omega)]
    constructor
    · have := List.pairwise_iff_getElem.1 (ord_sorted xs) j k (by simp; omega) (by simp; omega) hjk
      simpa using this
    · exact List.pairwise_iff_getElem.1 (ord_nodup xs) j k (by omega) hk hjk
/-- A trip of one or of two people, the slow one behind. -/
def OkT (xs : List Int) (t : Pt) : Prop :=
  (t.1.2 = tm xs t.1.1 ∧ 0 ≤ t.1.1 ∧ t.1.1 < xs.length) ∧ (t.2.2 = tm xs t.2.1 ∧ 0 ≤ t.2.1 ∧ t.2.1 < xs.length) ∧ (t.1 = t.2 ∨ (t.1.1 ≠ t.2.1 ∧ t.1.2 ≤ t.2.2))
theorem GoodW.one {xs : List Int} {W : List Wk} (h : GoodW xs W) {k : Nat} (hk : k < W.length) : OkT xs (wk W k, wk W k) := ⟨h.own k hk, h.own k hk, .inl rfl⟩
theorem GoodW.pair {xs : List Int} {W : List Wk} (h : GoodW xs W) {j k : Nat} (hj : j < k) (hk : k < W.length) : OkT xs (wk W j, wk W k) :=
  ⟨h.own j (by omega), h.own k hk, .inr ⟨(h.two j k hj hk).2, (h.two j k hj hk).1⟩⟩
theorem round_ok {xs : List Int} {W : List Wk} (h : GoodW xs W) (f : Bool) {k : Nat} (h2 : 2 ≤ k) (hk : k + 1 < W.length) : ∀ t ∈ round f W k, OkT xs t := by
  intro t ht
  unfold round at ht
  split at ht <;> simp only [List.mem_cons, List.not_mem_nil, or_false] at ht <;> rcases ht with rfl | rfl | rfl | rfl
  · exact h.pair (by omega) (by omega)
  · exact h.one (by omega)
  · exact h.pair (by omega) (by omega)
  · exact h.one (by omega)
  · exact h.pair (by omega) (by omega)
  · exact h.one (by omega)
  · exact h.pair (by omega) (by omega)
  · exact h.one (by omega)
theorem trips_ok {xs : List Int} {W : List Wk} (h : GoodW xs W) (f : Bool) : ∀ n, n ≤ W.length → ∀ t ∈ tripsT f W n, OkT xs t
  | 0, _ => fun t ht => by simp [tripsT] at ht
  | 1, hn => fun t ht => by simp only [tripsT, lastT, List.mem_cons, List.not_mem_nil, or_false] at ht; subst ht; exact h.one (by omega)
  | 2, hn => fun t ht => by simp only [tripsT, lastT, List.mem_cons, List.not_mem_nil, or_false] at ht; subst ht; exact h.pair (by omega) (by omega)
  | 3, hn => fun t ht => by
    simp only [tripsT, lastT, List.mem_cons, List.not_mem_nil, or_false] at ht
    rcases ht with rfl | rfl | rfl
    · exact h.pair (by omega) (by omega)
    · exact h.one (by omega)
    · exact h.pair (by omega) (by omega)
  | k + 4, hn => fun t ht => by
    rw [tripsT] at ht
    rcases List.mem_append.1 ht with ht | ht
    · exact round_ok h f (by omega) (by omega) t ht
    · exact trips_ok h f (k + 2) (by omega) t ht
theorem round_len (f : Bool) (W : List Wk) (k : Nat) : (round f W k).length = 4 := by unfold round; split <;> rfl
theorem trips_len (f : Bool) (W : List Wk) : ∀ n, (tripsT f W n).length ≤ 2 * n
  | 0 => by simp [tripsT]
  | 1 => by simp [tripsT, lastT]
  | 2 => by simp [tripsT, lastT]
  | 3 => by simp [tripsT, lastT]
  | k + 4 => by
    have := trips_len f W (k + 2)
    rw [tripsT, List.length_append, round_len]
    omega
/-- Every second trip is of one person. -/
theorem trips_alone (f : Bool) (W : List Wk) : ∀ n i (t : Pt), (tripsT f W n)[2 * i + 1]? = some t → isAlone t = true
  | 0, i, t, h => by simp [tripsT] at h
  | 1, i, t, h => by simp [tripsT, lastT] at h
  | 2, i, t, h => by simp [tripsT, lastT] at h
  | 3, i, t, h => by
    match i, h with
    | 0, h => simp [tripsT, lastT] at h; subst h; simp [isAlone]
    | i + 1, h => simp [tripsT, lastT, show 2 * (i + 1) + 1 = 2 * i + 3 by omega] at h
  | k + 4, i, t, h => by
    rw [tripsT] at h
    match i, h with
    | 0, h =>
      rw [List.getElem?_append_left (by rw [round_len]; omega)] at h
      unfold round at h
      split at h <;> · simp at h; subst h; simp [isAlone]
    | 1, h =>
      rw [List.getElem?_append_left (by rw [round_len]; omega)] at h
      unfold round at h
      split at h <;> · simp at h; subst h; simp [isAlone]
    | i + 2, h =>
      rw [List.getElem?_append_right (by rw [round_len]; omega), round_len, show 2 * (i + 2) + 1 - 4 = 2 * i + 1 by omega] at h
      exact trips_alone f W (k + 2) i t h
theorem OkT.steps {xs : List Int} {t : Pt} (h : OkT xs t) : StepsTo (listT t) (xs.length - 1) (listT t).length := by
  obtain ⟨⟨-, a1, a2⟩, ⟨-, b1, b2⟩, h3⟩ := h
  cases hc : isAlone t
  · have hne : t.1.1 ≠ t.2.1 := by
      rcases h3 with h3 | h3
      · rw [isAlone, h3] at hc
        simp at hc
      · exact h3.1
    rw [show listT t = [min t.1.1 t.2.1, max t.1.1 t.2.1] by simp [listT, hc]]
    intro j hj
    match j, hj with
    | 0, _ => simp [Step]; omega
    | 1, _ => simp [Step]; omega
    | j + 2, hj => exact absurd hj (by simp)
  · rw [show listT t = [t.1.1] by simp [listT, hc]]
    intro j hj
    match j, hj with
    | 0, _ => simp [Step]; omega
    | j + 1, hj => simp at hj
end Go.Proofs.Ytgojakcepbdajaa

namespace Go.Proofs.Ytgojakcepbdajaa
open Go.RowKit

set_option maxHeartbeats 3200000 in
set_option maxRecDepth 100000 in
theorem prOrder_any (A : Option Addr) (n c : Nat) (xs : List Int) (w : World) (hA : Holds w A (nums xs)) (hx : xs.length = n) (hn : n ≤ 1048575) :
    Calls Try.prog 93 #[.slice A n c] w (OwnPost (ordTo xs n) w) := by
  obtain ⟨i0, hi, hz0, hz1, hz2⟩ := info_parts info_int
  have HI := Lib.hid hi
  have HZ0 := Lib.hid hz0
  have HZ1 := Lib.hid hz1
  have HZ2 := Lib.hid hz2
  have HX := Lib.hid hx
  clear hi hz0 hz1 hz2 hx
  go_enter Try.func93, Try.ntmps93
  go_wp2
  go_loopw [3, 10] (fun v i wr => ∃ (j : Nat) (E : Option Addr) (d : Nat), j ≤ n ∧ i = .int .i64 j ∧ v = .slice E j d ∧ wr.ownsRow w.heap.size 3 1 (.slice E j d) j (nums (ordTo xs j)) ∧ Below w.heap.size w wr ∧ (j = 0 → E = none)) (fun _ i _ => n - (intOf i).toNat)
  case atStart => exact ⟨0, none, 0, Nat.zero_le _, rfl, rfl, World.ownsRow_nil _ _ _ _, Below.refl _ _, fun _ => rfl⟩
  case round =>
    obtain ⟨wo, rfl⟩ : ∃ wo : World, wo = wr := ⟨_, rfl⟩
    obtain ⟨j, E, d, hj, rfl, rfl, hown, hb, hnone⟩ := hrel
    by_cases hlt : j < n
    · have hjx : j < xs.length := by have := HX.out; omega
      obtain ⟨b1, o1, rfl, hbl1, hc⟩ := (hA.below hb).look (k := j) (by rw [nums_len]; exact hjx)
      simp only [nums, List.getElem_map] at hc
      rw [← tm_at hjx] at hc
      have HNX := Lib.hid (ordTo_next xs j)
      have HLN := Lib.hid (ordTo_len xs j)
      have HOWN := Lib.hid hown
      have HB := Lib.hid hb
      have hbs := hb.size
      have hpos : E ≠ none → 0 < j := fun he => Nat.pos_of_ne_zero fun h => he (hnone h)
      clear hnone
      rcases own_some hown with ⟨rfl, rfl, rfl⟩ | ⟨g, rfl, hjd⟩
      · -- the first number
        clear hpos
        simp only [Nat.add_zero] at hc
        clear hown hb
        go_wp2
        refine wp_loop_rounds 1 ?_
        rw [rounds_succ]
        go_wp2_with fail
        refine (l1Own_any none 0 0 [] _ (Holds.empty _ _) rfl (by omega) (fun _ => rfl)).mono ?_
        rintro e w1 ⟨E1, c1, rfl, hown1, hb1⟩
        have HO1 := Lib.hid (hown1.alloc (.cells #[.int .i64 0] 3))
        have HNEW := Lib.hid (cells_fresh w1 3 #[.int .i64 0])
        have HONE : Hid (∀ u ∈ [Value.int .i64 0], u.oneCell' = true) := fun u hu => by simp at hu; subst hu; rfl
        have HBB := Lib.hid ((below_then HB.out hb1 HB.out.size).alloc (Nat.le_trans HB.out.size hb1.size) (.cells #[.int .i64 0] 3))
        have hs1 := hb1.size
        clear hown1 hb1
        go_wp2_with (first | (at_builtin; refine wpList_append_own _ rfl (.tmp 36) (.tmp 38) 25 rfl wo.heap.size 3 i0 (.int .i64 0) 1 8 Try.underlying25 HI.out HZ0.out HZ1.out HZ2.out rfl (by decide) _ 0 [] rfl HO1.out ⟨w1.heap.size, 0, none⟩ 1 1 [.int .i64 0] rfl rfl HNEW.out HONE.out (by unfold maxLen; omega) (by omega) (by simp; omega) ?_; intro v2 w2 hown2 hg2 _; obtain ⟨g2, c2, hv2⟩ := own_slice hown2; subst hv2; simp only [Nat.zero_add, List.nil_append] at hown2) | (at_builtin; refine wpList_append_own_none rfl (.tmp 40) (.tmp 43) 25 rfl wo.heap.size 3 i0 1 Try.underlying25 HI.out _ 1 [.int .i64 0] rfl hown2 rfl ?_))
        have HO2 := Lib.hid (own_lower hown2 hbs)
        have HE := Lib.hid (HBB.out.grown hg2 (by simp; omega) (fun k hk => Nat.le_trans hbs (HO1.out.lt k hk).1))
        clear hown2 hg2
        go_roundw
        case rel => exact ⟨1, some ⟨g2, 0, none⟩, c2, by omega, by go_num, rfl, by rw [HNX.out]; exact HO2.out, HE.out, fun h => by omega⟩
        case measure => simp [intOf]; omega
      · have hj0 : 0 < j := hpos (by simp)
        clear hpos
        obtain ⟨hgl, hgb, hcells⟩ := own_cells hown
        have HCE := Lib.hid hcells
        clear hown hb hcells
        go_wp2
        go_loop [6] (fun k => ∃ kk : Nat, kk ≤ j ∧ k = .int .i64 kk ∧ spotO xs (ordTo xs j) (tm xs j) j = spotO xs (ordTo xs j) (tm xs j) kk) (fun k => (intOf k).toNat)
        case atStart => exact ⟨j, Nat.le_refl _, rfl, rfl⟩
        case round =>
          obtain ⟨p, hpj, rfl, hsp⟩ := hrel
          cases p with
          | zero =>
            rw [show spotO xs (ordTo xs j) (tm xs j) 0 = 0 from rfl] at hsp
            have hdne : ¬ d = 0 := by omega
            have HSP := Lib.hid hsp
            have hpd : 0 ≤ d := by omega
            have hp0 : (0 : Int) ≤ ((0 : Nat) : Int) := by omega
            have hpdi : ((0 : Nat) : Int) ≤ ((d : Nat) : Int) := by omega
            have hpji : ((0 : Nat) : Int) ≤ ((j : Nat) : Int) := by omega
            have HTK : Hid (((ordTo xs j).take 0).length = 0) := by show _ = _; have := HLN.out; simp only [List.length_take]; omega
            have HDR : Hid (((ordTo xs j).drop 0).length = j) := by show _ = _; have := HLN.out; simp only [List.length_drop]; omega
            have HDL : Hid ((nums ((ordTo xs j).drop 0)).length = j * 1) := by show _ = _; rw [nums_len, HDR.out, Nat.mul_one]
            have HDO := Lib.hid (ints_one ((ordTo xs j).drop 0))
            have hAl : Holds wo (some ⟨g, 0, none⟩) (nums ((ordTo xs j).take 0)) := by
              refine .inr ⟨g, 0, rfl, hgl, fun i u hu => ?_⟩
              rw [Nat.zero_add]
              refine HCE.out i u ?_
              have hi : i < 0 := by have := (List.getElem?_eq_some_iff.1 hu).1; rw [nums_len, HTK.out] at this; exact this
              first | (exfalso; omega) | (rw [← hu]; simp only [nums, List.map_take, List.getElem?_take, if_pos hi])
            clear hsp
            go_wp2_with fail
            refine (l1Own_any (some ⟨g, 0, none⟩) _ _ ((ordTo xs j).take 0) _ hAl HTK.out (by omega) (fun h => by cases h)).mono ?_
            rintro e w1 ⟨E1, c1, rfl, hown1, hb1⟩
            rw [HTK.out] at hown1 ⊢
            have HO1 := Lib.hid (hown1.alloc (.cells #[.int .i64 j] 3))
            have HNEW := Lib.hid (cells_fresh w1 3 #[.int .i64 j])
            have HONE : Hid (∀ u ∈ [Value.int .i64 j], u.oneCell' = true) := fun u hu => by simp at hu; subst hu; rfl
            have HBB := Lib.hid ((below_then HB.out hb1 HB.out.size).alloc (Nat.le_trans HB.out.size hb1.size) (.cells #[.int .i64 j] 3))
            have HC1 : Hid (∀ i u, (nums (ordTo xs j))[i]? = some u → (w1.alloc (.cells #[.int .i64 j] 3)).cell? ⟨g, i, none⟩ = some u) := fun i u hu => ((World.cell?_alloc_lt w1 _ ⟨g, i, none⟩ (Nat.lt_of_lt_of_le hgl hb1.size)).trans (hb1.cell (p := ⟨g, i, none⟩) hgl)).trans (HCE.out i u hu)
            have hs1 := hb1.size
            clear hown1 hb1
            go_wp2_with (first | (at_builtin; refine wpList_append_own _ rfl (.tmp 36) (.tmp 38) 25 rfl wo.heap.size 3 i0 (.int .i64 0) 1 8 Try.underlying25 HI.out HZ0.out HZ1.out HZ2.out rfl (by decide) _ 0 (nums ((ordTo xs j).take 0)) rfl HO1.out ⟨w1.heap.size, 0, none⟩ 1 1 [.int .i64 j] rfl rfl HNEW.out HONE.out (by unfold maxLen; omega) (by omega) (by simp; omega) ?_; intro v2 w2 hown2 hg2 _; obtain ⟨g2, c2, hv2⟩ := own_slice hown2; subst hv2; have HN2 : Hid (∀ i u, (nums ((ordTo xs j).drop 0))[i]? = some u → w2.cell? ((⟨g, 0, none⟩ : Addr).add i) = some u) := (fun i u hu => by rw [show (⟨g, 0, none⟩ : Addr).add i = ⟨g, 0 + i, none⟩ from by unfold Addr.add; split <;> simp_all]; exact (cell_grown hg2 (by simp; omega) (fun hh => by have := (HO1.out.lt g hh).1; omega)).trans (HC1.out _ u (by rw [← hu]; simp [nums])))) | (at_builtin; refine wpList_append_own _ rfl (.tmp 40) (.tmp 43) 25 rfl wo.heap.size 3 i0 (.int .i64 0) 1 8 Try.underlying25 HI.out HZ0.out HZ1.out HZ2.out rfl (by decide) (.slice (some ⟨g2, 0, none⟩) (0 + 1) c2) _ _ rfl hown2 ⟨g, 0, none⟩ j d (nums ((ordTo xs j).drop 0)) rfl HDL.out HN2.out HDO.out (by unfold maxLen; omega) (by omega) (by have := hg2.size; simp at this; omega) ?_; intro v3 w3 hown3 hg3 _))
            rw [show 0 + 1 + j = j + 1 by omega] at hown3
            obtain ⟨A3, c3, rfl⟩ := own_shape hown3
            have HO3 := Lib.hid (own_lower hown3 hbs)
            have HE := Lib.hid ((HBB.out.grown hg2 (by simp; omega) (fun k hk => Nat.le_trans hbs (HO1.out.lt k hk).1)).grown hg3 (by have := hg2.size; simp at this; omega) (fun k hk => Nat.le_trans hbs (hown2.lt k hk).1))
            have HL3 : Hid ((nums ((ordTo xs j).take 0) ++ [.int .i64 j]) ++ nums ((ordTo xs j).drop 0) = nums (ordTo xs (j + 1))) := by
              show _ = _
              rw [HNX.out, insO, HLN.out, HSP.out]
              simp [nums]
            clear hown2 hown3 hg2 hg3
            go_roundw
            case rel => exact ⟨j + 1, A3, c3, by omega, by go_num, rfl, by rw [← HL3.out]; exact HO3.out, HE.out, fun h => by omega⟩
            case measure => first | (simp [intOf]; done) | (simp [intOf]; omega)
          | succ p =>
            have hpl : p < (ordTo xs j).length := by have := HLN.out; omega
            have hcp := HCE.out p (.int .i64 ((ordTo xs j).getD p 0)) (by simp [nums, hpl])
            have hy0 := (ordTo_mem xs j ((ordTo xs j).getD p 0)).1 (by simp [hpl])
            obtain ⟨y, hy⟩ : ∃ y : Nat, (y : Int) = (ordTo xs j).getD p 0 := ⟨((ordTo xs j).getD p 0).toNat, by omega⟩
            have hyn : y < n := by omega
            have hyx : y < xs.length := by have := HX.out; omega
            obtain ⟨b2, o2, hab, -, hct⟩ := (hA.below HB.out).look (k := y) (by rw [nums_len]; exact hyx)
            obtain ⟨rfl, rfl⟩ : b1 = b2 ∧ o1 = o2 := by simpa using hab
            simp only [nums, List.getElem_map] at hct
            rw [← tm_at hyx] at hct
            rw [← hy] at hcp
            clear hab hy0 hyx
            by_cases hx : tm xs j < tm xs y
            · rw [spotO_down hpl (by rw [← hy]; exact hx)] at hsp
              clear hy
              have HSP := Lib.hid hsp
              clear hsp
              go_wp2
              go_round
              case rel => exact ⟨p, by omega, by go_num, HSP.out⟩
              case measure => first | (simp [intOf]; done) | (simp [intOf]; omega)
            · rw [spotO_here hpl (by rw [← hy]; exact hx)] at hsp
              clear hy
              by_cases hdp : d = p + 1
              · obtain rfl : j = p + 1 := by omega
                subst hdp
                have HSP := Lib.hid hsp
                have hpd : (p + 1) ≤ (p + 1) := by omega
                have hp0 : (0 : Int) ≤ (((p + 1) : Nat) : Int) := by omega
                have hpdi : (((p + 1) : Nat) : Int) ≤ (((p + 1) : Nat) : Int) := by omega
                have hpji : (((p + 1) : Nat) : Int) ≤ (((p + 1) : Nat) : Int) := by omega
                have HTK : Hid (((ordTo xs (p + 1)).take (p + 1)).length = (p + 1)) := by show _ = _; have := HLN.out; simp only [List.length_take]; omega
                have HDR : Hid (((ordTo xs (p + 1)).drop (p + 1)).length = 0) := by show _ = _; have := HLN.out; simp only [List.length_drop]; omega
                have HDL : Hid ((nums ((ordTo xs (p + 1)).drop (p + 1))).length = 0 * 1) := by show _ = _; rw [nums_len, HDR.out, Nat.mul_one]
                have HDO := Lib.hid (ints_one ((ordTo xs (p + 1)).drop (p + 1)))
                have hAl : Holds wo (some ⟨g, 0, none⟩) (nums ((ordTo xs (p + 1)).take (p + 1))) := by
                  refine .inr ⟨g, 0, rfl, hgl, fun i u hu => ?_⟩
                  rw [Nat.zero_add]
                  refine HCE.out i u ?_
                  have hi : i < (p + 1) := by have := (List.getElem?_eq_some_iff.1 hu).1; rw [nums_len, HTK.out] at this; exact this
                  first | (exfalso; omega) | (rw [← hu]; simp only [nums, List.map_take, List.getElem?_take, if_pos hi])
                clear hsp
                go_wp2_with fail
                refine (l1Own_any (some ⟨g, 0, none⟩) _ _ ((ordTo xs (p + 1)).take (p + 1)) _ hAl HTK.out (by omega) (fun h => by cases h)).mono ?_
                rintro e w1 ⟨E1, c1, rfl, hown1, hb1⟩
                rw [HTK.out] at hown1 ⊢
                have HO1 := Lib.hid (hown1.alloc (.cells #[.int .i64 ((p + 1 : Nat) : Int)] 3))
                have HNEW := Lib.hid (cells_fresh w1 3 #[.int .i64 ((p + 1 : Nat) : Int)])
                have HONE : Hid (∀ u ∈ [Value.int .i64 ((p + 1 : Nat) : Int)], u.oneCell' = true) := fun u hu => by simp at hu; subst hu; rfl
                have HBB := Lib.hid ((below_then HB.out hb1 HB.out.size).alloc (Nat.le_trans HB.out.size hb1.size) (.cells #[.int .i64 ((p + 1 : Nat) : Int)] 3))
                have HC1 : Hid (∀ i u, (nums (ordTo xs (p + 1)))[i]? = some u → (w1.alloc (.cells #[.int .i64 ((p + 1 : Nat) : Int)] 3)).cell? ⟨g, i, none⟩ = some u) := fun i u hu => ((World.cell?_alloc_lt w1 _ ⟨g, i, none⟩ (Nat.lt_of_lt_of_le hgl hb1.size)).trans (hb1.cell (p := ⟨g, i, none⟩) hgl)).trans (HCE.out i u hu)
                have hs1 := hb1.size
                clear hown1 hb1
                go_wp2_with (first | (at_builtin; refine wpList_append_own _ rfl (.tmp 36) (.tmp 38) 25 rfl wo.heap.size 3 i0 (.int .i64 0) 1 8 Try.underlying25 HI.out HZ0.out HZ1.out HZ2.out rfl (by decide) _ (p + 1) (nums ((ordTo xs (p + 1)).take (p + 1))) rfl HO1.out ⟨w1.heap.size, 0, none⟩ 1 1 [.int .i64 ((p + 1 : Nat) : Int)] rfl rfl HNEW.out HONE.out (by unfold maxLen; omega) (by omega) (by simp; omega) ?_; intro v2 w2 hown2 hg2 _; obtain ⟨g2, c2, hv2⟩ := own_slice hown2; subst hv2; have HN2 : Hid (∀ i u, (nums ((ordTo xs (p + 1)).drop (p + 1)))[i]? = some u → w2.cell? ((⟨g, 0, none⟩ : Addr).add i) = some u) := (fun i u hu => by rw [show (⟨g, 0, none⟩ : Addr).add i = ⟨g, 0 + i, none⟩ from by unfold Addr.add; split <;> simp_all]; exfalso; have h1 := (List.getElem?_eq_some_iff.1 hu).1; rw [nums_len, HDR.out] at h1; omega)) | (at_builtin; refine wpList_append_own _ rfl (.tmp 40) (.tmp 43) 25 rfl wo.heap.size 3 i0 (.int .i64 0) 1 8 Try.underlying25 HI.out HZ0.out HZ1.out HZ2.out rfl (by decide) (.slice (some ⟨g2, 0, none⟩) ((p + 1) + 1) c2) _ _ rfl hown2 ⟨g, 0, none⟩ 0 0 (nums ((ordTo xs (p + 1)).drop (p + 1))) rfl HDL.out HN2.out HDO.out (by unfold maxLen; omega) (by omega) (by have := hg2.size; simp at this; omega) ?_; intro v3 w3 hown3 hg3 _))
                rw [show (p + 1) + 1 + 0 = (p + 1) + 1 by omega] at hown3
                obtain ⟨A3, c3, rfl⟩ := own_shape hown3
                have HO3 := Lib.hid (own_lower hown3 hbs)
                have HE := Lib.hid ((HBB.out.grown hg2 (by simp; omega) (fun k hk => Nat.le_trans hbs (HO1.out.lt k hk).1)).grown hg3 (by have := hg2.size; simp at this; omega) (fun k hk => Nat.le_trans hbs (hown2.lt k hk).1))
                have HL3 : Hid ((nums ((ordTo xs (p + 1)).take (p + 1)) ++ [.int .i64 ((p + 1 : Nat) : Int)]) ++ nums ((ordTo xs (p + 1)).drop (p + 1)) = nums (ordTo xs ((p + 1) + 1))) := by
                  show _ = _
                  rw [HNX.out, insO, HLN.out, HSP.out]
                  simp [nums]
                clear hown2 hown3 hg2 hg3
                go_roundw
                case rel => exact ⟨(p + 1) + 1, A3, c3, by omega, by go_num, rfl, by rw [← HL3.out]; exact HO3.out, HE.out, fun h => by omega⟩
                case measure => first | (simp [intOf]; done) | (simp [intOf]; omega)
              · have HSP := Lib.hid hsp
                have hpd : (p + 1) ≤ d := by omega
                have hp0 : (0 : Int) ≤ (((p + 1) : Nat) : Int) := by omega
                have hpdi : (((p + 1) : Nat) : Int) ≤ ((d : Nat) : Int) := by omega
                have hpji : (((p + 1) : Nat) : Int) ≤ ((j : Nat) : Int) := by omega
                have HTK : Hid (((ordTo xs j).take (p + 1)).length = (p + 1)) := by show _ = _; have := HLN.out; simp only [List.length_take]; omega
                have HDR : Hid (((ordTo xs j).drop (p + 1)).length = (j - (p + 1))) := by show _ = _; have := HLN.out; simp only [List.length_drop]; omega
                have HDL : Hid ((nums ((ordTo xs j).drop (p + 1))).length = (j - (p + 1)) * 1) := by show _ = _; rw [nums_len, HDR.out, Nat.mul_one]
                have HDO := Lib.hid (ints_one ((ordTo xs j).drop (p + 1)))
                have hAl : Holds wo (some ⟨g, 0, none⟩) (nums ((ordTo xs j).take (p + 1))) := by
                  refine .inr ⟨g, 0, rfl, hgl, fun i u hu => ?_⟩
                  rw [Nat.zero_add]
                  refine HCE.out i u ?_
                  have hi : i < (p + 1) := by have := (List.getElem?_eq_some_iff.1 hu).1; rw [nums_len, HTK.out] at this; exact this
                  first | (exfalso; omega) | (rw [← hu]; simp only [nums, List.map_take, List.getElem?_take, if_pos hi])
                clear hsp
                go_wp2_with fail
                refine (l1Own_any (some ⟨g, 0, none⟩) _ _ ((ordTo xs j).take (p + 1)) _ hAl HTK.out (by omega) (fun h => by cases h)).mono ?_
                rintro e w1 ⟨E1, c1, rfl, hown1, hb1⟩
                rw [HTK.out] at hown1 ⊢
                have HO1 := Lib.hid (hown1.alloc (.cells #[.int .i64 j] 3))
                have HNEW := Lib.hid (cells_fresh w1 3 #[.int .i64 j])
                have HONE : Hid (∀ u ∈ [Value.int .i64 j], u.oneCell' = true) := fun u hu => by simp at hu; subst hu; rfl
                have HBB := Lib.hid ((below_then HB.out hb1 HB.out.size).alloc (Nat.le_trans HB.out.size hb1.size) (.cells #[.int .i64 j] 3))
                have HC1 : Hid (∀ i u, (nums (ordTo xs j))[i]? = some u → (w1.alloc (.cells #[.int .i64 j] 3)).cell? ⟨g, i, none⟩ = some u) := fun i u hu => ((World.cell?_alloc_lt w1 _ ⟨g, i, none⟩ (Nat.lt_of_lt_of_le hgl hb1.size)).trans (hb1.cell (p := ⟨g, i, none⟩) hgl)).trans (HCE.out i u hu)
                have hs1 := hb1.size
                clear hown1 hb1
                go_wp2_with (first | (at_builtin; refine wpList_append_own _ rfl (.tmp 36) (.tmp 38) 25 rfl wo.heap.size 3 i0 (.int .i64 0) 1 8 Try.underlying25 HI.out HZ0.out HZ1.out HZ2.out rfl (by decide) _ (p + 1) (nums ((ordTo xs j).take (p + 1))) rfl HO1.out ⟨w1.heap.size, 0, none⟩ 1 1 [.int .i64 j] rfl rfl HNEW.out HONE.out (by unfold maxLen; omega) (by omega) (by simp; omega) ?_; intro v2 w2 hown2 hg2 _; obtain ⟨g2, c2, hv2⟩ := own_slice hown2; subst hv2; have HN2 : Hid (∀ i u, (nums ((ordTo xs j).drop (p + 1)))[i]? = some u → w2.cell? ((⟨g, (p + 1), none⟩ : Addr).add i) = some u) := (fun i u hu => by rw [show (⟨g, (p + 1), none⟩ : Addr).add i = ⟨g, (p + 1) + i, none⟩ from by unfold Addr.add; split <;> simp_all]; exact (cell_grown hg2 (by simp; omega) (fun hh => by have := (HO1.out.lt g hh).1; omega)).trans (HC1.out _ u (by rw [← hu]; simp [nums])))) | (at_builtin; refine wpList_append_own _ rfl (.tmp 40) (.tmp 43) 25 rfl wo.heap.size 3 i0 (.int .i64 0) 1 8 Try.underlying25 HI.out HZ0.out HZ1.out HZ2.out rfl (by decide) (.slice (some ⟨g2, 0, none⟩) ((p + 1) + 1) c2) _ _ rfl hown2 ⟨g, (p + 1), none⟩ (j - (p + 1)) (d - (p + 1)) (nums ((ordTo xs j).drop (p + 1))) rfl HDL.out HN2.out HDO.out (by unfold maxLen; omega) (by omega) (by have := hg2.size; simp at this; omega) ?_; intro v3 w3 hown3 hg3 _))
                rw [show (p + 1) + 1 + (j - (p + 1)) = j + 1 by omega] at hown3
                obtain ⟨A3, c3, rfl⟩ := own_shape hown3
                have HO3 := Lib.hid (own_lower hown3 hbs)
                have HE := Lib.hid ((HBB.out.grown hg2 (by simp; omega) (fun k hk => Nat.le_trans hbs (HO1.out.lt k hk).1)).grown hg3 (by have := hg2.size; simp at this; omega) (fun k hk => Nat.le_trans hbs (hown2.lt k hk).1))
                have HL3 : Hid ((nums ((ordTo xs j).take (p + 1)) ++ [.int .i64 j]) ++ nums ((ordTo xs j).drop (p + 1)) = nums (ordTo xs (j + 1))) := by
                  show _ = _
                  rw [HNX.out, insO, HLN.out, HSP.out]
                  simp [nums]
                clear hown2 hown3 hg2 hg3
                go_roundw
                case rel => exact ⟨j + 1, A3, c3, by omega, by go_num, rfl, by rw [← HL3.out]; exact HO3.out, HE.out, fun h => by omega⟩
                case measure => first | (simp [intOf]; done) | (simp [intOf]; omega)
    · have hjn : j = n := by omega
      subst hjn
      go_wp2
      go_ret
      have hl := ordTo_len xs j
      exact ⟨E, d, by rw [hl]; rfl, by rw [hl]; exact hown, hb⟩
end Go.Proofs.Ytgojakcepbdajaa

namespace Go.Proofs.Ytgojakcepbdajaa
open Go.RowKit

/-- A squad's cells. -/
def squadCells (W : List Wk) (n : Int) : Array Value := #[.int .i64 (wk W 0).1, .int .i64 (wk W 0).2, .int .i64 (wk W 1).1, .int .i64 (wk W 1).2, .int .i64 (wk W 2).1, .int .i64 (wk W 2).2, .int .i64 (wk W 3).1, .int .i64 (wk W 3).2, .int .i64 (wk W 4).1, .int .i64 (wk W 4).2, .int .i64 (wk W 5).1, .int .i64 (wk W 5).2, .int .i64 (wk W 6).1, .int .i64 (wk W 6).2, .int .i64 (wk W 7).1, .int .i64 (wk W 7).2, .int .i64 (wk W 8).1, .int .i64 (wk W 8).2, .int .i64 (wk W 9).1, .int .i64 (wk W 9).2, .int .i64 (wk W 10).1, .int .i64 (wk W 10).2, .int .i64 (wk W 11).1, .int .i64 (wk W 11).2, .int .i64 n]
theorem squad_size (W : List Wk) (n : Int) : (squadCells W n).size = 25 := rfl
theorem squad_one (W : List Wk) (n : Int) : (squadCells W n).all (·.oneCell') = true := by simp [squadCells, Value.oneCell']
theorem squad_who (W : List Wk) (n : Int) {k : Nat} (h : k < 12) : (squadCells W n)[2 * k]? = some (.int .i64 (wk W k).1) :=
  match k, h with
  | 0, _ => rfl
  | 1, _ => rfl
  | 2, _ => rfl
  | 3, _ => rfl
  | 4, _ => rfl
  | 5, _ => rfl
  | 6, _ => rfl
  | 7, _ => rfl
  | 8, _ => rfl
  | 9, _ => rfl
  | 10, _ => rfl
  | 11, _ => rfl
theorem squad_time (W : List Wk) (n : Int) {k : Nat} (h : k < 12) : (squadCells W n)[2 * k + 1]? = some (.int .i64 (wk W k).2) :=
  match k, h with
  | 0, _ => rfl
  | 1, _ => rfl
  | 2, _ => rfl
  | 3, _ => rfl
  | 4, _ => rfl
  | 5, _ => rfl
  | 6, _ => rfl
  | 7, _ => rfl
  | 8, _ => rfl
  | 9, _ => rfl
  | 10, _ => rfl
  | 11, _ => rfl
theorem squad_n (W : List Wk) (n : Int) : (squadCells W n)[24]? = some (.int .i64 n) := rfl
theorem size_squad : (Try.prog.info? 114).map (·.size) = some 25 := by kernel_rfl
/-- A person more. -/
theorem squad_next (W : List Wk) (n : Int) (x : Wk) (h : W.length < 12) : ((squadCells W n).setIfInBounds (2 * W.length) (.int .i64 x.1)).setIfInBounds (2 * W.length + 1) (.int .i64 x.2) = squadCells (W ++ [x]) n := by
  have hw : ∀ i, wk (W ++ [x]) i = if i = W.length then x else wk W i := fun i => by
    simp only [wk, List.getD_eq_getElem?_getD, List.getElem?_append]
    rcases Nat.lt_trichotomy i W.length with hi | hi | hi
    · rw [if_pos hi, if_neg (by omega)]
    · subst hi
      rw [if_neg (by omega), if_pos rfl]
      simp
    · rw [if_neg (by omega), if_neg (by omega), List.getElem?_eq_none (by simp; omega), List.getElem?_eq_none (by omega)]
  unfold squadCells
  simp only [hw]
  generalize W.length = k at h ⊢
  match k, h with
  | 0, _ => rfl
  | 1, _ => rfl
  | 2, _ => rfl
  | 3, _ => rfl
  | 4, _ => rfl
  | 5, _ => rfl
  | 6, _ => rfl
  | 7, _ => rfl
  | 8, _ => rfl
  | 9, _ => rfl
  | 10, _ => rfl
  | 11, _ => rfl

/-- Draws and blocks behind a world. -/
def Grown (W W' : World) : Prop := ∃ q os, W' = Go.Sort.grow (W.drewN q) os
theorem drewN_grow (W : World) (os : Array Obj) : ∀ q, (Go.Sort.grow W os).drewN q = Go.Sort.grow (W.drewN q) os
  | _ => rfl
theorem Grown.refl (W : World) : Grown W W := ⟨0, #[], by rw [Go.Sort.grow_empty]; rfl⟩
theorem Grown.alloc {W W' : World} (h : Grown W W') (o : Obj) : Grown W (W'.alloc o) := by
  obtain ⟨q, os, rfl⟩ := h
  exact ⟨q, os ++ #[o], by rw [Go.Sort.alloc_eq_grow, Go.Sort.grow_grow]⟩
theorem Grown.drewN {W W' : World} (h : Grown W W') (n : Nat) : Grown W (W'.drewN n) := by
  obtain ⟨q, os, rfl⟩ := h
  exact ⟨q + n, os, by rw [drewN_grow]; first | rfl | rw [World.drewN_drewN]⟩
theorem Grown.drew {W W' : World} (h : Grown W W') : Grown W W'.drew := h.drewN 1
theorem Grown.trans {W W' W'' : World} (h : Grown W W') (k : Grown W' W'') : Grown W W'' := by
  obtain ⟨q, os, rfl⟩ := h
  obtain ⟨r, ps, rfl⟩ := k
  exact ⟨q + r, os ++ ps, by rw [drewN_grow, Go.Sort.grow_grow]; first | rfl | rw [World.drewN_drewN]⟩
theorem Grown.below {W W' : World} (h : Grown W W') : Below W.heap.size W W' := by
  obtain ⟨q, os, rfl⟩ := h
  exact ⟨rfl, rfl, rfl, by simp [Go.Sort.grow], fun k hk => Go.Sort.heap_grow_old _ _ hk⟩

def Try.laysW_ren : Go.Shelf.Ren := ⟨fun | 20 => 116 | n => n, fun | 0 => 0 | 3 => 3 | 4 => 4 | 22 => 132 | 24 => 111 | 25 => 138 | n => n, fun | n => n⟩
theorem Try.laysW : Go.Proofs.SlLaysF0.n20 Try.prog Try.laysW_ren := {
  mixed := by kernel_rfl
  f20 := ⟨ "slices.insertionSortCmpFunc[loop.example/g01272/impl.walker]", by decide, Try.func116.trans (congrArg some (by kernel_rfl))⟩
  t0 := Try.underlying0
  a0 := Try.isAgg0
  z0 := Try.sizeOf0
  v0 := Try.zeroValue0
  t3 := Try.underlying3
  a3 := Try.isAgg3
  z3 := Try.sizeOf3
  v3 := Try.zeroValue3
  t4 := Try.underlying4
  a4 := Try.isAgg4
  z4 := Try.sizeOf4
  v4 := Try.zeroValue4
  t22 := Try.underlying132
  a22 := Try.isAgg132
  z22 := Try.sizeOf132
  v22 := Try.zeroValue132
  t25 := Try.underlying138
  a25 := Try.isAgg138
  z25 := Try.sizeOf138
  v25 := Try.zeroValue138
}

set_option maxHeartbeats 400000 in
theorem isNaN_any (x : Int) (w : World) : Calls Try.prog 102 #[.int .i64 x] w fun e w' => e = .returned (.bool false) ∧ w = w' := by
  go_enter Try.func102, Try.ntmps102
  go_wp2
  go_ret
  exact ⟨by simp, rfl⟩
set_option maxHeartbeats 800000 in
theorem compare_any (x y : Int) (w : World) : Calls Try.prog 114 #[.int .i64 x, .int .i64 y] w fun e w' => e = .returned (.int .i64 (Go.Lib.compareInt x y)) ∧ w = w' := by
  by_cases h : x < y
  · have HC : Hid (Go.Lib.compareInt x y = -1) := if_pos h
    go_enter Try.func114, Try.ntmps114
    go_wp2_with (go_at_call 102; refine (isNaN_any _ _).mono ?_; rintro e w' ⟨rfl, rfl⟩)
    go_ret
    exact ⟨ret_of (by rw [HC.out]; rfl), rfl⟩
  · by_cases h2 : y < x
    · have HC : Hid (Go.Lib.compareInt x y = 1) := by show _ = _; rw [Go.Lib.compareInt, if_neg h, if_pos h2]
      go_enter Try.func114, Try.ntmps114
      go_wp2_with (go_at_call 102; refine (isNaN_any _ _).mono ?_; rintro e w' ⟨rfl, rfl⟩)
      go_ret
      exact ⟨ret_of (by rw [HC.out]; rfl), rfl⟩
    · have HC : Hid (Go.Lib.compareInt x y = 0) := by show _ = _; rw [Go.Lib.compareInt, if_neg h, if_neg h2]
      go_enter Try.func114, Try.ntmps114
      go_wp2_with (go_at_call 102; refine (isNaN_any _ _).mono ?_; rintro e w' ⟨rfl, rfl⟩)
      go_ret
      exact ⟨ret_of (by rw [HC.out]; rfl), rfl⟩
theorem compare_lt : ltOf (fun a b : Wk => Go.Lib.compareInt a.2 b.2) = wlt := by
  funext x y
  show decide ((if x.2 < y.2 then (-1 : Int) else if x.2 > y.2 then 1 else 0) < 0) = decide (x.2 < y.2)
  by_cases h : x.2 < y.2
  · simp [h]
  · rw [if_neg h]
    split <;> simp [h]

set_option maxHeartbeats 800000 in
theorem pace_any (x : Wk) (w : World) : Calls Try.prog 108 #[.agg #[.int .i64 x.1, .int .i64 x.2]] w fun e w' => e = .returned (.int .i64 x.2) ∧ Grown w w' := by
  have HG := Lib.hid ((Grown.refl w).alloc (.cells #[.int .i64 x.1, .int .i64 x.2] 111))
  go_enter Try.func108, Try.ntmps108
  go_wp2
  go_ret
  exact ⟨rfl, HG.out⟩

/-- The key by which people are sorted, as a value. -/
def paceV : Value := .func (.func 108) #[] #[]
set_option maxHeartbeats 3200000 in
set_option maxRecDepth 100000 in
theorem closure_any (x y : Wk) (B : Nat) (w : World) (hl : B < w.heap.size) (hB : w.cell? ⟨B, 0, none⟩ = some paceV) :
    Calls Try.prog 113 #[.agg #[.int .i64 x.1, .int .i64 x.2], .agg #[.int .i64 y.1, .int .i64 y.2], .pointer (some ⟨B, 0, none⟩)] w fun e w' => e = .returned (.int .i64 (Go.Lib.compareInt x.2 y.2)) ∧ Grown w w' := by
  have hg := ((Grown.refl w).alloc (.cells #[.int .i64 x.1, .int .i64 x.2] 111)).alloc (.cells #[.int .i64 y.1, .int .i64 y.2] 111)
  have hx := (Whole.fresh w 111 #[.int .i64 x.1, .int .i64 x.2]).alloc (.cells #[.int .i64 y.1, .int .i64 y.2] 111)
  have hy := Whole.fresh (w.alloc (.cells #[.int .i64 x.1, .int .i64 x.2] 111)) 111 #[.int .i64 y.1, .int .i64 y.2]
  rw [World.size_alloc] at hy
  have hk : ((w.alloc (.cells #[.int .i64 x.1, .int .i64 x.2] 111)).alloc (.cells #[.int .i64 y.1, .int .i64 y.2] 111)).cell? ⟨B, 0, none⟩ = some paceV := (hg.below.cell (p := ⟨B, 0, none⟩) hl).trans hB
  obtain ⟨x0, x1, -, -⟩ := hx.two
  obtain ⟨y0, y1, -, -⟩ := hy.two
  have HG := Lib.hid hg
  have HX := Lib.hid hx
  have HY := Lib.hid hy
  clear hg hx hy hB
  unfold paceV at *
  go_enter Try.func113, Try.ntmps113
  go_upto_region 1 with fail
  go_region_held3 (fun w' => w'.cell? ⟨B, 0, none⟩ = some (.func (.func 108) #[] #[]) ∧ (w'.cell? ⟨w.heap.size, 0, none⟩ = some (.int .i64 x.1) ∧ w'.cell? ⟨w.heap.size, 1, none⟩ = some (.int .i64 x.2)) ∧ (w'.cell? ⟨w.heap.size + 1, 0, none⟩ = some (.int .i64 y.1) ∧ w'.cell? ⟨w.heap.size + 1, 1, none⟩ = some (.int .i64 y.2))) (go_keep)
    (first | (go_at_call 108; refine (pace_any x _).mono ?_; rintro e wx ⟨rfl, hgx⟩; have hbx := hgx.below; have hkx := (hbx.cell (p := ⟨B, 0, none⟩) (by simp; omega)).trans hk; have hxx := HX.out.drew.below hbx; have hyx := HY.out.drew.below hbx; obtain ⟨xx0, xx1, -, -⟩ := hxx.two; obtain ⟨yx0, yx1, -, -⟩ := hyx.two; have HGX := Lib.hid (HG.out.drew.trans hgx); have hlx := HGX.out.below.size; clear hgx hbx) | (go_at_call 108; refine (pace_any y _).mono ?_; rintro e wy ⟨rfl, hgy⟩; have hby := hgy.below; have hky := (hby.cell (p := ⟨B, 0, none⟩) (Nat.lt_of_lt_of_le hl HGX.out.below.size)).trans hkx; have hxy := hxx.below hby; have hyy := hyx.below hby; obtain ⟨xy0, xy1, -, -⟩ := hxy.two; obtain ⟨yy0, yy1, -, -⟩ := hyy.two; have HGY := Lib.hid (HGX.out.trans hgy); clear hgy hby) | (go_at_call 114; refine (compare_any _ _ _).mono ?_; rintro e wc ⟨rfl, rfl⟩) | fail)
  go_wp2
  go_ret
  exact ⟨rfl, HGY.out⟩
end Go.Proofs.Ytgojakcepbdajaa

namespace Go.Proofs.Ytgojakcepbdajaa
open Go.RowKit Go.Sort

def encW (x : Wk) : List Value := [.int .i64 x.1, .int .i64 x.2]
def cmpW (x y : Wk) : Int := Go.Lib.compareInt x.2 y.2
theorem encW_len (x : Wk) : (encW x).length = 2 := rfl
theorem encW_one (x : Wk) : ∀ v ∈ encW x, v.oneCell' = true := fun v hv => by
  simp [encW] at hv
  rcases hv with rfl | rfl <;> rfl
theorem cmpLays (g B n : Nat) (w : World) (hg : g < w.heap.size) (hB : B < w.heap.size) (hne : B ≠ g) (hc : w.cell? ⟨B, 0, none⟩ = some paceV) :
    CmpLays Try.prog 113 #[.pointer (some ⟨B, 0, none⟩)] encW 2 cmpW g 0 n w := by
  intro m os dk _ x y
  have hs := size_sortWorldK_c encW 2 w g 0 m dk os
  have hcell : (sortWorldK encW 2 w g 0 m dk os).cell? ⟨B, 0, none⟩ = some paceV := by
    unfold sortWorldK
    rw [cell?_grow _ _ _ (by rw [size_putRowK]; exact hB), cell?_putRowK_other _ _ _ _ _ _ _ hne]
    exact hc
  exact closure_any x y B _ (Nat.lt_of_lt_of_le hB hs) hcell

set_option maxHeartbeats 1600000 in
set_option maxRecDepth 100000 in
theorem stable_any (d : Array Wk) (g B cap : Nat) (w : World) (hH : HoldsK encW 2 w g 0 d) (hg : g < w.heap.size) (hB : B < w.heap.size) (hne : B ≠ g) (hc : w.cell? ⟨B, 0, none⟩ = some paceV) (h12 : d.size ≤ 12) :
    Calls Try.prog 115 #[.slice (some ⟨g, 0, none⟩) d.size cap, .int .i64 d.size, .func (.func 113) #[] #[.pointer (some ⟨B, 0, none⟩)]] w fun e w' => e = .returned (.tuple #[]) ∧ ∃ m os, w' = sortWorldK encW 2 w g 0 m (insertionSort wlt d 0 d.size) os := by
  have eg : ∀ args W, (callFunc 113 args).run Try.prog W = .ok (.enter 113 args) W := enters_of Try.func113 (by kernel_rfl) rfl
  have hins := AnyQ.insertionSortCmpFunc Try.laysW 2 Try.isAgg111 Try.sizeOf111 encW encW_len encW_one cmpW 113 #[.pointer (some ⟨B, 0, none⟩)] g 0 cap 0 d.size d w eg (cmpLays g B d.size w hg hB hne hc) hH hg (Nat.zero_le _) (Nat.le_refl _) (by omega)
  change Calls Try.prog 116 _ _ _ at hins
  rw [show ltOf cmpW = wlt from compare_lt] at hins
  generalize insertionSort wlt d 0 d.size = r at hins ⊢
  have h20 : (d.size : Int) < 20 := by omega
  have HI := Lib.hid hins
  clear hins hH hc
  go_enter Try.func115, Try.ntmps115
  go_wp2
  refine wp_loop_rounds 1 ?_
  rw [rounds_succ]
  go_wp2_with (go_at_call 116; refine HI.out.mono ?_; rintro e w' ⟨rfl, m, os, rfl⟩)
  refine wp_loop_rounds 1 ?_
  rw [rounds_succ]
  go_wp2
  go_end0
  exact ⟨rfl, m, os, rfl⟩

set_option maxHeartbeats 1600000 in
theorem stableFunc_any (d : Array Wk) (g B cap : Nat) (w : World) (hH : HoldsK encW 2 w g 0 d) (hg : g < w.heap.size) (hB : B < w.heap.size) (hne : B ≠ g) (hc : w.cell? ⟨B, 0, none⟩ = some paceV) (h12 : d.size ≤ 12) :
    Calls Try.prog 112 #[.slice (some ⟨g, 0, none⟩) d.size cap, .func (.func 113) #[] #[.pointer (some ⟨B, 0, none⟩)]] w fun e w' => e = .returned (.tuple #[]) ∧ ∃ m os, w' = sortWorldK encW 2 w g 0 m (insertionSort wlt d 0 d.size) os := by
  have hins := stable_any d g B cap w hH hg hB hne hc h12
  generalize insertionSort wlt d 0 d.size = r at hins ⊢
  have HI := Lib.hid hins
  clear hins hH hc
  go_enter Try.func112, Try.ntmps112
  go_wp2_with (go_at_call 115; refine HI.out.mono ?_; rintro e w' ⟨rfl, m, os, rfl⟩)
  go_end0
  exact ⟨rfl, m, os, rfl⟩

set_option maxHeartbeats 1600000 in
theorem sortBy_any (d : Array Wk) (g cap : Nat) (w : World) (hH : HoldsK encW 2 w g 0 d) (hg : g < w.heap.size) (h12 : d.size ≤ 12) :
    Calls Try.prog 107 #[.slice (some ⟨g, 0, none⟩) d.size cap, paceV] w fun e w' => e = .returned (.tuple #[]) ∧ ∃ m os, w' = sortWorldK encW 2 (w.alloc (.cells #[paceV] 133)) g 0 m (insertionSort wlt d 0 d.size) os := by
  have hH2 : HoldsK encW 2 (w.alloc (.cells #[paceV] 133)) g 0 d := by
    rw [alloc_eq_grow]
    exact holdsK_grow encW 2 w _ g 0 d hg hH
  have hins := stableFunc_any d g w.heap.size cap (w.alloc (.cells #[paceV] 133)) hH2 (by simp; omega) (by simp) (by omega) ((Whole.fresh w 133 #[paceV]).cell 0) h12
  generalize insertionSort wlt d 0 d.size = r at hins ⊢
  have HI := Lib.hid hins
  clear hins hH hH2
  go_enter Try.func107, Try.ntmps107
  go_wp2_with (go_at_call 112; refine HI.out.mono ?_; rintro e w' ⟨rfl, m, os, rfl⟩)
  go_end0
  exact ⟨rfl, m, os, rfl⟩
end Go.Proofs.Ytgojakcepbdajaa

namespace Go.Proofs.Ytgojakcepbdajaa
open Go.RowKit

/-- Times of people of whom two may cross at once. -/
def prOk (xs : List Int) : Bool := within xs.length 1 12 && allIn xs 1 1000
theorem prOk_len {xs : List Int} (h : xs.length < 1 ∨ 12 < xs.length) : prOk xs = false := by
  rw [prOk, within_no (by omega)]
  rfl
theorem prOk_time {xs : List Int} {k : Nat} (h : k < xs.length) (ht : xs[k] < 1 ∨ 1000 < xs[k]) : prOk xs = false := by
  rw [prOk, allIn_no h (within_no ht), Bool.and_false]
theorem prOk_all {xs : List Int} (h1 : 1 ≤ xs.length) (h2 : xs.length ≤ 12) (h : ∀ j (hj : j < xs.length), 1 ≤ xs[j] ∧ xs[j] ≤ 1000) : prOk xs = true := by
  rw [prOk, within_yes (by omega) (by omega), Bool.true_and, allIn_iff]
  intro y hy
  obtain ⟨j, hj, rfl⟩ := List.getElem_of_mem hy
  exact h j hj
theorem prOk_parts {xs : List Int} (h : prOk xs = true) : 1 ≤ xs.length ∧ xs.length ≤ 12 ∧ ∀ y ∈ xs, 1 ≤ y ∧ y ≤ 1000 := by
  simp only [prOk, Bool.and_eq_true] at h
  have h1 := within_iff.1 h.1
  exact ⟨by omega, by omega, (allIn_iff _ _ _).1 h.2⟩
/-- The people in the order in which they are told. -/
def plain (xs : List Int) (k : Nat) : List Wk := mk xs ((List.range k).map Int.ofNat)
theorem plain_len (xs : List Int) (k : Nat) : (plain xs k).length = k := by simp [plain, mk]
theorem plain_next (xs : List Int) (k : Nat) : plain xs (k + 1) = plain xs k ++ [((k : Int), tm xs k)] := by
  simp [plain, mk, List.range_succ]
theorem holdsK_squad {w : World} {g : Nat} {W : List Wk} {n : Int} (h : Whole w g 114 (squadCells W n)) (h12 : W.length ≤ 12) : Go.Sort.HoldsK encW 2 w g 0 W.toArray := by
  intro t ht
  refine ⟨?_, h.open_ _⟩
  rw [Go.Sort.size_flatK] at ht
  have hk : t / 2 < W.length := by simp at ht; omega
  rw [Nat.zero_add, h.cell t, Go.Sort.get_flatK _ _ _ _ ht]
  have hw : W.toArray[t / 2]! = wk W (t / 2) := by simp [wk, hk]
  rw [hw]
  rcases Nat.mod_two_eq_zero_or_one t with hm | hm
  · rw [hm]
    have := squad_who W n (k := t / 2) (by omega)
    rwa [show 2 * (t / 2) = t by omega] at this
  · rw [hm]
    have := squad_time W n (k := t / 2) (by omega)
    rwa [show 2 * (t / 2) + 1 = t by omega] at this
theorem put_squad {W : List Wk} {n : Int} {r : Array Wk} (h12 : W.length ≤ 12) (hr : r.size = W.length) : Go.Sort.putCells id 0 (Go.Sort.flatK encW 2 r) (squadCells W n) = squadCells r.toList n := by
  have hs : (Go.Sort.putCells id 0 (Go.Sort.flatK encW 2 r) (squadCells W n)).size = 25 := by simp [Go.Sort.putCells, squad_size]
  apply Array.ext_getElem?
  intro t
  rcases Nat.lt_or_ge t 25 with h25 | h25
  · have hat : (Go.Sort.putCells id 0 (Go.Sort.flatK encW 2 r) (squadCells W n))[t]? = ((squadCells W n)[t]?).map fun x => if t < r.size * 2 then (Go.Sort.flatK encW 2 r)[t]! else x := by
      simp [Go.Sort.putCells, Go.Sort.size_flatK]
    rw [hat]
    by_cases ht : t < r.size * 2
    · have hk : t / 2 < r.size := by omega
      have hw : r[t / 2]! = wk r.toList (t / 2) := by simp [wk, hk, getElem!_def]
      have hs1 : (squadCells W n)[t]? = some ((squadCells W n)[t]'(by rw [squad_size]; exact h25)) := Array.getElem?_eq_getElem _
      rw [hs1, Option.map_some, if_pos ht, Go.Sort.get_flatK _ _ _ _ ht, hw]
      rcases Nat.mod_two_eq_zero_or_one t with hm | hm
      · have := squad_who r.toList n (k := t / 2) (by omega)
        rw [show 2 * (t / 2) = t by omega] at this
        rw [this, hm]
        rfl
      · have := squad_time r.toList n (k := t / 2) (by omega)
        rw [show 2 * (t / 2) + 1 = t by omega] at this
        rw [this, hm]
        rfl
    · simp only [if_neg ht, Option.map_id']
      by_cases h24 : t = 24
      · subst h24; rfl
      · have hz : wk W (t / 2) = wk r.toList (t / 2) := by
          have h1 : W.length ≤ t / 2 := by omega
          have h2 : r.toList.length ≤ t / 2 := by simp; omega
          simp [wk, List.getD_eq_getElem?_getD, List.getElem?_eq_none h1, List.getElem?_eq_none h2]
        rcases Nat.mod_two_eq_zero_or_one t with hm | hm
        · have a := squad_who W n (k := t / 2) (by omega)
          have b := squad_who r.toList n (k := t / 2) (by omega)
          rw [show 2 * (t / 2) = t by omega] at a b
          rw [a, b, hz]
        · have a := squad_time W n (k := t / 2) (by omega)
          have b := squad_time r.toList n (k := t / 2) (by omega)
          rw [show 2 * (t / 2) + 1 = t by omega] at a b
          rw [a, b, hz]
  · rw [Array.getElem?_eq_none (by omega), Array.getElem?_eq_none (by rw [squad_size]; exact h25)]
theorem whole_sorted {w : World} {g m : Nat} {os : Array Obj} {W : List Wk} {n : Int} {r : Array Wk} (h : Whole w g 114 (squadCells W n)) (h12 : W.length ≤ 12) (hr : r.size = W.length) : Whole (sortWorldK encW 2 w g 0 m r os) g 114 (squadCells r.toList n) := by
  rw [← put_squad h12 hr]
  have hg := h.lt
  unfold Whole at h ⊢
  unfold sortWorldK Go.Sort.putRowK
  rw [Go.Sort.heap_grow_old _ _ (by simpa [Go.Sort.putRow, Go.Sort.mapBlock, Go.Sort.ahead] using hg)]
  simp only [Go.Sort.putRow, Go.Sort.mapBlock, Go.Sort.ahead, Array.getElem?_modify, h]
  rfl
theorem others_sorted {w : World} {g m : Nat} {os : Array Obj} {r : Array Wk} : (sortWorldK encW 2 w g 0 m r os).os = w.os ∧ (sortWorldK encW 2 w g 0 m r os).tape = w.tape ∧ (sortWorldK encW 2 w g 0 m r os).output = w.output ∧ w.heap.size ≤ (sortWorldK encW 2 w g 0 m r os).heap.size ∧ ∀ k, k < w.heap.size → k ≠ g → (sortWorldK encW 2 w g 0 m r os).heap[k]? = w.heap[k]? := by
  refine ⟨rfl, rfl, rfl, size_sortWorldK_c _ _ _ _ _ _ _ _, fun k hk hne => ?_⟩
  unfold sortWorldK Go.Sort.putRowK
  rw [Go.Sort.heap_grow_old _ _ (by simpa [Go.Sort.putRow, Go.Sort.mapBlock, Go.Sort.ahead] using hk)]
  have hne' : ¬ g = k := fun h => hne h.symm
  simp only [Go.Sort.putRow, Go.Sort.mapBlock, Go.Sort.ahead, Array.getElem?_modify, if_neg hne']

/-- What squadOf hands back. -/
def SquadPost (xs : List Int) (w : World) (e : Ending) (w' : World) : Prop :=
  ((prOk xs = true ∧ e = .returned (.tuple #[.agg (squadCells (mk xs (ord xs)) xs.length), .bool true])) ∨ (prOk xs = false ∧ e = .returned (.tuple #[.agg (squadCells [] 0), .bool false]))) ∧ Below w.heap.size w w'
end Go.Proofs.Ytgojakcepbdajaa

namespace Go.Proofs.Ytgojakcepbdajaa
open Go.RowKit

theorem squad_ret {w : World} {tmps : Array Value} {g : Nat} {cs : Array Value} {b : Bool} (h2 : tmps.getD 2 undef = .pointer (some ⟨g, 0, none⟩)) (h3 : tmps.getD 3 undef = .bool b) (hw : Whole w g 114 cs) (hs : cs.size = 25) :
    (results Try.f98 tmps).run Try.prog w = .ok (.tuple #[.agg cs, .bool b]) w := by
  have hl := run_loadVar_row (P := Try.prog) w g 114 114 cs (0, 0) _ hw Try.underlying114 rfl (by rw [hs]; exact size_squad)
  have h2' : tmps[2]?.getD undef = .pointer (some ⟨g, 0, none⟩) := by simpa using h2
  have h3' : tmps[3]?.getD undef = .bool b := by simpa using h3
  simp [results, Try.results98, h2', h3', asAddr, hl]

set_option maxHeartbeats 6400000 in
set_option maxRecDepth 100000 in
theorem squadOf_any (A : Option Addr) (n c : Nat) (xs : List Int) (w : World) (hA : Holds w A (nums xs)) (hx : xs.length = n) (hn : n ≤ 9223372036854775807) :
    Calls Try.prog 98 #[.slice A n c] w (SquadPost xs w) := by
  have HX := Lib.hid hx
  by_cases hlen : n < 1 ∨ 12 < n
  · have HNO := Lib.hid (prOk_len (xs := xs) (by omega))
    clear hx
    rcases hlen with hlen | hlen
    all_goals
      go_enter Try.func98, Try.ntmps98
      go_upto_region 1 with fail
      refine (?_ : ∀ W0, W0 = w.alloc (.cells (squadCells [] 0) 114) → Code.wp _ _ _ _ W0) _ rfl
      intro W0 hW0
      have h0 : Whole W0 w.heap.size 114 (squadCells [] 0) := by rw [hW0]; exact Whole.fresh w _ _
      have hb0 : Below w.heap.size w W0 := by rw [hW0]; exact below1 w _
      have HH0 := Lib.hid h0
      have HB0 := Lib.hid hb0
      clear hW0 h0 hb0
      go_upto_region 2 with fail
      go_wp2_with (refine wpList_store_whole rfl 114 (.tmp 2) (.tmp 15) rfl w.heap.size (squadCells [] 0) rfl rfl 114 (squadCells [] 0) HH0.out size_squad rfl (squad_one _ _) ?_; intro W1 hw1 ho1)
      have HW1 := Lib.hid hw1
      have HB1 := Lib.hid (ho1.below HB0.out (Nat.le_refl _))
      clear hw1 ho1
      refine bodyPost_ret (v := .tuple #[.agg (squadCells [] 0), .bool false]) (squad_ret rfl rfl HW1.out rfl) rfl ?_
      exact ⟨.inr ⟨HNO.out, rfl⟩, HB1.out⟩
  · have h12 : n ≤ 12 := by omega
    have h1n : 1 ≤ n := by omega
    clear hx hlen
    go_enter Try.func98, Try.ntmps98
    go_upto_region 1 with fail
    refine (?_ : ∀ W0, W0 = w.alloc (.cells (squadCells [] 0) 114) → Code.wp _ _ _ _ W0) _ rfl
    intro W0 hW0
    have h0 : Whole W0 w.heap.size 114 (squadCells [] 0) := by rw [hW0]; exact Whole.fresh w _ _
    have hb0 : Below w.heap.size w W0 := by rw [hW0]; exact below1 w _
    have hlt0 : w.heap.size < W0.heap.size := by rw [hW0]; simp
    have HH0 := Lib.hid h0
    have HB0 := Lib.hid hb0
    clear hW0 h0 hb0
    go_upto_region 3 with fail
    go_upto_region 4 with (refine wpList_store_whole rfl 114 (.tmp 4) (.tmp 18) rfl W0.heap.size (squadCells [] n) rfl rfl 114 _ (Whole.fresh _ _ _) size_squad rfl (squad_one _ _) ?_; intro W1 hw1 ho1)
    have hb1 := ho1.below (HB0.out.alloc HB0.out.size (.cells (squadCells [] 0) 114)) (Nat.le_of_lt hlt0)
    have h01 := ho1.whole (HH0.out.alloc (.cells (squadCells [] 0) 114)) (by omega)
    have HB1 := Lib.hid hb1
    have HW1 := Lib.hid hw1
    have H01 := Lib.hid h01
    clear hw1 ho1 hb1 h01
    go_wp2_with fail
    go_loopw [21] (fun i wr => ∃ k : Nat, k ≤ n ∧ i = .int .i64 k ∧ Whole wr w.heap.size 114 (squadCells [] 0) ∧ Whole wr W0.heap.size 114 (squadCells (plain xs k) n) ∧ Below w.heap.size w wr ∧ (∀ j (hj : j < xs.length), j < k → 1 ≤ xs[j] ∧ xs[j] ≤ 1000)) (fun i _ => n - (intOf i).toNat)
    case atStart => exact ⟨0, Nat.zero_le _, rfl, H01.out, HW1.out, HB1.out, fun j _ h => absurd h (by omega)⟩
    case round =>
      obtain ⟨k, hk, rfl, hz, hw, hb, hall⟩ := hrel
      clear HB1 HW1 H01
      by_cases hkn : k < n
      · have hkx : k < xs.length := by have := HX.out; omega
        obtain ⟨b1, o1, rfl, hbl1, hcell⟩ := (hA.below hb).look (k := k) (by rw [nums_len]; exact hkx)
        simp only [nums, List.getElem_map] at hcell
        have HZ := Lib.hid hz
        have HW := Lib.hid hw
        have HB := Lib.hid hb
        have HALL := Lib.hid hall
        have hbad := prOk_time (xs := xs) hkx
        have hgood : ∀ j (hj : j < xs.length), j < k + 1 → 1 ≤ xs[k] → xs[k] ≤ 1000 → 1 ≤ xs[j] ∧ xs[j] ≤ 1000 := fun j hj hjk h1 h2 => by
          rcases Nat.lt_or_ge j k with h | h
          · exact HALL.out j hj h
          · obtain rfl : j = k := by omega
            exact ⟨h1, h2⟩
        have htm := tm_at hkx
        generalize xs[k] = x at hcell hbad hgood htm
        have HGOOD := Lib.hid hgood
        have HTM := Lib.hid htm
        by_cases hxb : x < 1 ∨ 1000 < x
        · have HNO := Lib.hid (hbad hxb)
          clear hz hw hb hall hbad hgood htm
          rcases hxb with hxb | hxb
          all_goals
            go_wp2_with (refine wpList_store_whole rfl 114 (.tmp 2) (.tmp 32) rfl w.heap.size (squadCells [] 0) rfl rfl 114 (squadCells [] 0) HZ.out size_squad rfl (squad_one _ _) ?_; intro W2 hw2 ho2)
            have HW2 := Lib.hid hw2
            have HB2 := Lib.hid (ho2.below HB.out (Nat.le_refl _))
            clear hw2 ho2
            refine bodyPost_ret (v := .tuple #[.agg (squadCells [] 0), .bool false]) (squad_ret rfl rfl HW2.out rfl) rfl ?_
            exact ⟨.inr ⟨HNO.out, rfl⟩, HB2.out⟩
        · have hx1 : 1 ≤ x := by omega
          have hx2 : x ≤ 1000 := by omega
          have hk12 : (k : Int) < 12 := by omega
          have hc0 := (hw.cell (2 * k)).trans (squad_who _ _ (by omega))
          have hc1 := (hw.cell (2 * k + 1)).trans (squad_time _ _ (by omega))
          have hf0 := hw.open_ (2 * k)
          have hf1 := hw.open_ (2 * k + 1)
          clear hz hw hb hall hbad hgood htm hxb
          rw [show 2 * k = k * 2 from Nat.mul_comm _ _] at hc0 hc1 hf0 hf1
          go_upto_region 10 with fail
          have hwn : Whole ((wr.setCell ⟨W0.heap.size, k * 2, none⟩ (.int .i64 k)).setCell ⟨W0.heap.size, k * 2 + 1, none⟩ (.int .i64 x)) W0.heap.size 114 (squadCells (plain xs (k + 1)) n) := by
            have h := (HW.out.set_ (k * 2) (.int .i64 k)).set_ (k * 2 + 1) (.int .i64 x)
            have hn := squad_next (plain xs k) n ((k : Int), x) (by rw [plain_len]; omega)
            rw [plain_len, show 2 * k = k * 2 from Nat.mul_comm _ _] at hn
            rw [plain_next, HTM.out, ← hn]
            exact h
          have HWN := Lib.hid hwn
          have HZN := Lib.hid ((HZ.out.off (b := W0.heap.size) (o := k * 2) (u := .int .i64 k) (by omega)).off (b := W0.heap.size) (o := k * 2 + 1) (u := .int .i64 x) (by omega))
          have HBN := Lib.hid (below_set (below_set HB.out (b := W0.heap.size) (o := k * 2) (u := .int .i64 k) (by omega)) (b := W0.heap.size) (o := k * 2 + 1) (u := .int .i64 x) (by omega))
          clear hwn
          go_wp2
          go_roundw
          case rel => exact ⟨k + 1, by omega, by go_num, HZN.out, HWN.out, HBN.out, fun j hj h => HGOOD.out j hj h hx1 hx2⟩
          case measure => simp [intOf]; omega
      · obtain rfl : k = n := by omega
        have hok : prOk xs = true := prOk_all (by have := HX.out; omega) (by have := HX.out; omega) (fun j hj => hall j hj (by have := HX.out; omega))
        have HOK := Lib.hid hok
        have HZ := Lib.hid hz
        have HW := Lib.hid hw
        have HB := Lib.hid hb
        have hw24 := hw.cell 24
        rw [squad_n] at hw24
        have hgl := hw.lt
        have hds : (plain xs k).toArray.size = k := by simp [plain_len]
        have hsort := sortBy_any (plain xs k).toArray W0.heap.size 12 wr (holdsK_squad hw (by rw [plain_len]; omega)) hgl (by rw [hds]; omega)
        rw [hds] at hsort
        have hrl : (Go.Sort.insertionSort wlt (plain xs k).toArray 0 k).toList = mk xs (ord xs) := by
          have := sort_list xs (plain xs k).toArray (by simp [plain, HX.out])
          rw [HX.out] at this
          exact this
        generalize Go.Sort.insertionSort wlt (plain xs k).toArray 0 k = r at hsort hrl
        have hrs : r.size = (plain xs k).length := by rw [plain_len, ← Array.length_toList, hrl, mk_len, ord_len, HX.out]
        have HS := Lib.hid hsort
        have HRL := Lib.hid hrl
        have HRS := Lib.hid hrs
        have HPL := Lib.hid (plain_len xs k)
        have hk0 : (0 : Int) ≤ (k : Int) := by omega
        have hk12 : (k : Int) ≤ 12 := by omega
        clear hz hw hb hall hok hsort hrl hrs hds
        unfold paceV at HS
        go_wp2_with fail
        refine HS.out.mono ?_
        rintro e w2 ⟨rfl, m, os, hw2⟩
        have HWA := HW.out.alloc (.cells #[paceV] 133)
        have hw3 : Whole w2 W0.heap.size 114 (squadCells r.toList k) := by rw [hw2]; exact whole_sorted HWA (by rw [HPL.out]; omega) HRS.out
        obtain ⟨q1, q2, q3, q4, q5⟩ := others_sorted (w := wr.alloc (.cells #[paceV] 133)) (g := W0.heap.size) (m := m) (os := os) (r := r)
        have hz3 : Whole w2 w.heap.size 114 (squadCells [] 0) := by rw [hw2]; exact (q5 _ (HZ.out.alloc _).lt (by omega)).trans (HZ.out.alloc _)
        have hb3 : Below w.heap.size w w2 := by
          rw [hw2]
          refine (HB.out.alloc HB.out.size (.cells #[paceV] 133)).trans ⟨q1, q2, q3, q4, fun j hj => q5 j (by have := HB.out.size; simp; omega) (by omega)⟩
        have HW3 := Lib.hid hw3
        have HZ3 := Lib.hid hz3
        have HB3 := Lib.hid hb3
        clear hw2 HWA hw3 q1 q2 q3 q4 q5 hz3 hb3 hw24
        go_wp2_with (first | (refine wpList_load_row rfl 114 (.tmp 4) rfl W0.heap.size rfl 114 (squadCells r.toList k) (0, 0) _ HW3.out Try.underlying114 rfl size_squad ?_) | (refine wpList_store_whole rfl 114 (.tmp 2) (.tmp 45) rfl w.heap.size (squadCells r.toList k) rfl rfl 114 (squadCells [] 0) HZ3.out size_squad rfl (squad_one _ _) ?_; intro W4 hw4 ho4))
        have HW4 := Lib.hid hw4
        have HB4 := Lib.hid (ho4.below HB3.out (Nat.le_refl _))
        clear hw4 ho4
        refine bodyPost_ret (v := .tuple #[.agg (squadCells r.toList k), .bool true]) (squad_ret rfl rfl HW4.out rfl) rfl ?_
        rw [HRL.out]
        exact ⟨.inl ⟨HOK.out, by rw [HX.out]⟩, HB4.out⟩
end Go.Proofs.Ytgojakcepbdajaa

namespace Go.Proofs.Ytgojakcepbdajaa
open Go.RowKit

/-- The people in their order, if there are times; else nobody. -/
def sqW (xs : List Int) : List Wk := if prOk xs then mk xs (ord xs) else []
theorem sqW_yes {xs : List Int} (h : prOk xs = true) : sqW xs = mk xs (ord xs) := if_pos h
theorem sqW_no {xs : List Int} (h : prOk xs = false) : sqW xs = [] := if_neg (by simp [h])
theorem sqW_len (xs : List Int) : (sqW xs).length ≤ 12 := by
  cases h : prOk xs
  · rw [sqW_no h]; simp
  · rw [sqW_yes h, mk_len, ord_len]
    exact (prOk_parts h).2.1
theorem squad_as {xs : List Int} {w w' : World} {e : Ending} (h : SquadPost xs w e w') : e = .returned (.tuple #[.agg (squadCells (sqW xs) (sqW xs).length), .bool (prOk xs)]) ∧ Below w.heap.size w w' := by
  rcases h with ⟨⟨hp, rfl⟩ | ⟨hp, rfl⟩, hb⟩
  · exact ⟨by rw [sqW_yes hp, hp, mk_len, ord_len], hb⟩
  · exact ⟨by rw [sqW_no hp, hp]; rfl, hb⟩
theorem own_fresh1 {w : World} {lo n c : Nat} {ty : TypeId} {A : Option Addr} {xs : List Value} (h : w.ownsRow lo ty 1 (.slice A n c) n xs) : Fresh w lo w.heap.size ty A xs := by
  obtain ⟨A', c', hv, hf⟩ := Fresh.of_own h (Nat.le_refl _)
  obtain ⟨rfl, -⟩ : A = A' ∧ c = c' := by simpa using hv
  exact hf
/-- What a call hands back that makes a list and tells whether it did. -/
def ListPost (ls : List Int) (ok : Bool) (w : World) (e : Ending) (w' : World) : Prop :=
  ∃ (A : Option Addr) (c : Nat), e = .returned (.tuple #[.slice A ls.length c, .bool ok]) ∧ Fresh w' w.heap.size w'.heap.size 3 A (nums ls) ∧ Below w.heap.size w w'
theorem ListPost.no {w w' : World} (h : Below w.heap.size w w') : ListPost [] false w (.returned (.tuple #[.slice none 0 0, .bool false])) w' := ⟨none, 0, rfl, .inl rfl, h⟩
theorem ListPost.own {ls : List Int} {ok : Bool} {w w' : World} {A : Option Addr} {c : Nat} (h : w'.ownsRow w.heap.size 3 1 (.slice A ls.length c) ls.length (nums ls)) (hb : Below w.heap.size w w') : ListPost ls ok w (.returned (.tuple #[.slice A ls.length c, .bool ok])) w' :=
  ⟨A, c, rfl, own_fresh1 h, hb⟩

def ranked (xs : List Int) : List Int := if prOk xs then ord xs else []
theorem ranked_map (xs : List Int) : (sqW xs).map (fun x => x.1) = ranked xs := by
  cases h : prOk xs
  · simp [sqW, ranked, h]
  · simp only [sqW, ranked, h, mk, if_true, List.map_map]
    exact List.map_id _
theorem ranked_le (xs : List Int) : (ranked xs).length ≤ 1048576 := by
  rw [← ranked_map, List.length_map]
  have := sqW_len xs
  omega
/-- The first k of some people. -/
def whos (W : List Wk) (k : Nat) : List Int := (W.take k).map (fun x => x.1)
theorem whos_next {W : List Wk} {k : Nat} (h : k < W.length) : whos W (k + 1) = whos W k ++ [(wk W k).1] := by
  rw [whos, List.take_succ_eq_append_getElem h, List.map_append]
  simp [whos, wk, h]
theorem whos_len {W : List Wk} {k : Nat} (h : k ≤ W.length) : (whos W k).length = k := by simp [whos]; omega

end Go.Proofs.Ytgojakcepbdajaa

namespace Go.Proofs.Ytgojakcepbdajaa
open Go.RowKit

/-- Two boxes that the call has made, each with a person. -/
def TwoBoxes (lo : Nat) (a b : Wk) (w : World) (s5 s6 : Value) (wx : World) : Prop :=
  ∃ p q : Nat, s5 = .pointer (some ⟨p, 0, none⟩) ∧ s6 = .pointer (some ⟨q, 0, none⟩) ∧ lo ≤ p ∧ lo ≤ q ∧ p ≠ q ∧ Whole wx p 111 #[.int .i64 a.1, .int .i64 a.2] ∧ Whole wx q 111 #[.int .i64 b.1, .int .i64 b.2] ∧ Below lo w wx

theorem two_ab (a b : Wk) (w : World) : TwoBoxes w.heap.size a b w (.pointer (some ⟨w.heap.size, 0, none⟩)) (.pointer (some ⟨w.heap.size + 1, 0, none⟩)) ((w.alloc (.cells #[.int .i64 a.1, .int .i64 a.2] 111)).alloc (.cells #[.int .i64 b.1, .int .i64 b.2] 111)).drew := by
  refine ⟨w.heap.size, w.heap.size + 1, rfl, rfl, Nat.le_refl _, Nat.le_succ _, by omega, ((Whole.fresh w _ _).alloc _).drew, ?_, (below2 w _ _).drew⟩
  have h := (Whole.fresh (w.alloc (.cells #[.int .i64 a.1, .int .i64 a.2] 111)) 111 #[.int .i64 b.1, .int .i64 b.2]).drew
  rw [World.size_alloc] at h
  exact h
theorem two_ba (a b : Wk) (w : World) : TwoBoxes w.heap.size a b w (.pointer (some ⟨w.heap.size + 1, 0, none⟩)) (.pointer (some ⟨w.heap.size, 0, none⟩)) ((w.alloc (.cells #[.int .i64 b.1, .int .i64 b.2] 111)).alloc (.cells #[.int .i64 a.1, .int .i64 a.2] 111)).drew := by
  refine ⟨w.heap.size + 1, w.heap.size, rfl, rfl, Nat.le_succ _, Nat.le_refl _, by omega, ?_, ((Whole.fresh w _ _).alloc _).drew, (below2 w _ _).drew⟩
  have h := (Whole.fresh (w.alloc (.cells #[.int .i64 b.1, .int .i64 b.2] 111)) 111 #[.int .i64 a.1, .int .i64 a.2]).drew
  rw [World.size_alloc] at h
  exact h

set_option maxHeartbeats 6400000 in
set_option maxRecDepth 100000 in
theorem fetchGain_any (W : List Wk) (y : Wk) (w : World) (ha0 : 0 ≤ (wk W 0).2) (ha1 : (wk W 0).2 ≤ 1000) (hb0 : 0 ≤ (wk W 1).2) (hb1 : (wk W 1).2 ≤ 1000) (hy0 : 0 ≤ y.2) (hy1 : y.2 ≤ 1000) :
    Calls Try.prog 110 #[.agg (squadCells W W.length), .agg #[.int .i64 y.1, .int .i64 y.2]] w fun e w' => e = .returned (.int .i64 ((wk W 0).2 + y.2 - 2 * (wk W 1).2)) ∧ Below w.heap.size w w' := by
  have h0 := (Whole.fresh w 114 (squadCells W W.length)).alloc (.cells #[.int .i64 y.1, .int .i64 y.2] 111)
  have hy := Whole.fresh (w.alloc (.cells (squadCells W W.length) 114)) 111 #[.int .i64 y.1, .int .i64 y.2]
  rw [World.size_alloc] at hy
  have hbw := below2 w (.cells (squadCells W W.length) 114) (.cells #[.int .i64 y.1, .int .i64 y.2] 111)
  have a0 := (h0.cell 0).trans (squad_who W W.length (k := 0) (by omega))
  have a1 := (h0.cell 1).trans (squad_time W W.length (k := 0) (by omega))
  have b0 := (h0.cell 2).trans (squad_who W W.length (k := 1) (by omega))
  have b1 := (h0.cell 3).trans (squad_time W W.length (k := 1) (by omega))
  obtain ⟨W0, hW0⟩ : ∃ W0, W0 = (w.alloc (.cells (squadCells W W.length) 114)).alloc (.cells #[.int .i64 y.1, .int .i64 y.2] 111) := ⟨_, rfl⟩
  rw [← hW0] at h0 hy hbw a0 a1 b0 b1
  have hl0 := hy.lt
  have HW0 := Lib.hid hW0
  have HY := Lib.hid hy
  have HBW := Lib.hid hbw
  generalize wk W 0 = a at *
  generalize wk W 1 = b at *
  clear h0 hy hbw hW0
  go_enter Try.func110, Try.ntmps110
  go_wp2_with fail
  go_cut [5, 6] from 7 to 12 (fun s5 s6 wx => TwoBoxes W0.heap.size a b W0 s5 s6 wx)
  case first =>
    rw [← HW0.out]
    have hn1 : ¬ W0.heap.size = w.heap.size := by omega
    have hn2 : ¬ W0.heap.size + 1 = w.heap.size := by omega
    have hn3 : ¬ w.heap.size = W0.heap.size := by omega
    have hn4 : ¬ w.heap.size = W0.heap.size + 1 := by omega
    go_region_held3 (fun w' => (w'.cell? ⟨w.heap.size, 0, none⟩ = some (.int .i64 a.1) ∧ w'.cell? ⟨w.heap.size, 1, none⟩ = some (.int .i64 a.2)) ∧ (w'.cell? ⟨w.heap.size, 2, none⟩ = some (.int .i64 b.1) ∧ w'.cell? ⟨w.heap.size, 3, none⟩ = some (.int .i64 b.2))) (go_keep) (fail)
    all_goals (go_wp2_with fail; go_meet)
    all_goals first | exact two_ab a b W0 | exact two_ba a b W0
  obtain ⟨p, q, rfl, rfl, hp, hq, hpq, hwp, hwq, hb⟩ := hcut
  obtain ⟨k0, k1, -, -⟩ := (HY.out.below hb).two
  obtain ⟨p0, p1, -, -⟩ := hwp.two
  obtain ⟨q0, q1, -, -⟩ := hwq.two
  have HB := Lib.hid (below_then HBW.out hb HBW.out.size)
  clear hwp hwq hb a0 a1 b0 b1
  go_wp2
  go_ret
  exact ⟨rfl, HB.out⟩
end Go.Proofs.Ytgojakcepbdajaa

namespace Go.Proofs.Ytgojakcepbdajaa
open Go.RowKit

/-- The same place with other numbers. -/
def RowV.put (r : RowV) (ys : List Int) : RowV := ⟨r.A, r.n, r.c, ys⟩
/-- Rows of the call's own, each in a range of blocks that no other one meets. -/
def FreeRows (w : World) (ps : List (Nat × Nat)) (rs : List RowV) : Prop :=
  ps.length = rs.length ∧ (∀ (k : Nat) r p, rs[k]? = some r → ps[k]? = some p → Fresh w p.1 p.2 3 r.A (nums r.xs) ∧ r.xs.length = r.n ∧ r.n ≤ 1048576) ∧
    ∀ (i j : Nat) p p', i ≠ j → ps[i]? = some p → ps[j]? = some p' → p.2 ≤ p'.1 ∨ p'.2 ≤ p.1
/-- A list of lists of the call's own, all of it in blocks from lo on and before hi. -/
def FreeGrid (w : World) (lo hi : Nat) (A : Option Addr) (rs : List RowV) : Prop :=
  ∃ ps, FreeRows w ps rs ∧ (∀ p ∈ ps, lo ≤ p.1 ∧ p.2 ≤ hi) ∧ (rs = [] ∨ ∃ b o, A = some ⟨b, o, none⟩ ∧ b < w.heap.size ∧ lo ≤ b ∧ b < hi ∧ (∀ p ∈ ps, b < p.1 ∨ p.2 ≤ b) ∧ ∀ j u, (rowVals rs)[j]? = some u → w.cell? ⟨b, o + j, none⟩ = some u)
section
variable {w w' : World} {lo hi lo' hi' : Nat} {A : Option Addr} {rs : List RowV} {ps : List (Nat × Nat)}
theorem FreeRows.below (h : FreeRows w ps rs) (hb : Below w.heap.size w w') : FreeRows w' ps rs :=
  ⟨h.1, fun k r p hr hp => ⟨(h.2.1 k r p hr hp).1.below hb, (h.2.1 k r p hr hp).2⟩, h.2.2⟩
theorem FreeGrid.below (h : FreeGrid w lo hi A rs) (hb : Below w.heap.size w w') : FreeGrid w' lo hi A rs := by
  obtain ⟨ps, h1, h2, h3⟩ := h
  refine ⟨ps, h1.below hb, h2, ?_⟩
  rcases h3 with h3 | ⟨b, o, hA, hl, g1, g2, hd, hc⟩
  · exact .inl h3
  · exact .inr ⟨b, o, hA, Nat.lt_of_lt_of_le hl hb.size, g1, g2, hd, fun j u hu => (hb.cell (p := ⟨b, o + j, none⟩) hl).trans (hc j u hu)⟩
theorem FreeGrid.alloc (h : FreeGrid w lo hi A rs) (o : Obj) : FreeGrid (w.alloc o) lo hi A rs := h.below (below1 w o)
theorem FreeGrid.drew (h : FreeGrid w lo hi A rs) : FreeGrid w.drew lo hi A rs := h.below ⟨rfl, rfl, rfl, Nat.le_refl _, fun _ _ => rfl⟩
theorem FreeGrid.more (h : FreeGrid w lo hi A rs) (h1 : lo' ≤ lo) (h2 : hi ≤ hi') : FreeGrid w lo' hi' A rs := by
  obtain ⟨ps, g1, g2, g3⟩ := h
  refine ⟨ps, g1, fun p hp => ⟨Nat.le_trans h1 (g2 p hp).1, Nat.le_trans (g2 p hp).2 h2⟩, ?_⟩
  rcases g3 with g3 | ⟨b, o, hA, hl, k1, k2, hd, hc⟩
  · exact .inl g3
  · exact .inr ⟨b, o, hA, hl, Nat.le_trans h1 k1, Nat.lt_of_lt_of_le k2 h2, hd, hc⟩
theorem FreeGrid.grid (h : FreeGrid w lo hi A rs) : Grid w A rs := by
  obtain ⟨ps, g1, g2, g3⟩ := h
  refine ⟨?_, fun r hr => ?_⟩
  · rcases g3 with rfl | ⟨b, o, hA, hl, -, -, -, hc⟩
    · exact .inl rfl
    · exact .inr ⟨b, o, hA, hl, hc⟩
  · obtain ⟨k, hk, rfl⟩ := List.getElem_of_mem hr
    obtain ⟨a1, a2, a3⟩ := g1.2.1 k rs[k] (ps[k]'(by rw [g1.1]; exact hk)) (List.getElem?_eq_getElem hk) (List.getElem?_eq_getElem (by rw [g1.1]; exact hk))
    exact ⟨a1.holds, a2, by omega⟩
theorem Span.wider (h : Span lo' hi' w w') (h1 : lo ≤ lo') (h2 : hi' ≤ hi) : Span lo hi w w' := ⟨h.os, h.tape, h.output, h.size, fun k hk hd => h.block k hk (by omega)⟩
theorem Span.cell (h : Span lo hi w w') {p : Addr} (hl : p.block < w.heap.size) (hg : p.block < lo ∨ hi ≤ p.block) : w'.cell? p = w.cell? p := by
  unfold World.cell?
  rw [h.block p.block hl hg]
theorem Span.freeRows (h : Span lo hi w w') (hf : FreeRows w ps rs) (hd : ∀ p ∈ ps, p.2 ≤ lo ∨ hi ≤ p.1) : FreeRows w' ps rs :=
  ⟨hf.1, fun k r p hr hp => ⟨h.fresh (hf.2.1 k r p hr hp).1 (hd p (List.mem_of_getElem? hp)), (hf.2.1 k r p hr hp).2⟩, hf.2.2⟩
theorem Span.freeGrid (h : Span lo hi w w') (hf : FreeGrid w lo' hi' A rs) (hd : hi' ≤ lo ∨ hi ≤ lo') : FreeGrid w' lo' hi' A rs := by
  obtain ⟨ps, g1, g2, g3⟩ := hf
  refine ⟨ps, h.freeRows g1 (fun p hp => by have := g2 p hp; omega), g2, ?_⟩
  rcases g3 with g3 | ⟨b, o, hA, hl, k1, k2, hdd, hc⟩
  · exact .inl g3
  · exact .inr ⟨b, o, hA, Nat.lt_of_lt_of_le hl h.size, k1, k2, hdd, fun j u hu => (h.cell (p := ⟨b, o + j, none⟩) hl (by show b < lo ∨ hi ≤ b; omega)).trans (hc j u hu)⟩
/-- Behind a row that has turned: the others stand as they were. -/
theorem FreeRows.turn (h : FreeRows w ps rs) {k : Nat} {r : RowV} {p : Nat × Nat} (hr : rs[k]? = some r) (hp : ps[k]? = some p) (hs : Span p.1 p.2 w w') {ys : List Int} (hf : Fresh w' p.1 p.2 3 r.A (nums ys)) (hy : ys.length = r.n) : FreeRows w' ps (rs.set k (r.put ys)) := by
  refine ⟨by simp [h.1], fun i r' p' hi hp' => ?_, h.2.2⟩
  rw [List.getElem?_set] at hi
  by_cases he : k = i
  · subst he
    obtain rfl : p = p' := by rw [hp] at hp'; exact Option.some.inj hp'
    rw [if_pos rfl] at hi
    split at hi
    · obtain rfl := Option.some.inj hi
      exact ⟨hf, hy, (h.2.1 k r p hr hp).2.2⟩
    · cases hi
  · rw [if_neg he] at hi
    exact ⟨hs.fresh (h.2.1 i r' p' hi hp').1 (by have := h.2.2 i k p' p (fun e => he e.symm) hp' hp; omega), (h.2.1 i r' p' hi hp').2⟩
theorem FreeGrid.turn (h : FreeGrid w lo hi A rs) {k : Nat} (hk : k < rs.length) : ∃ a b, lo ≤ a ∧ b ≤ hi ∧ Fresh w a b 3 rs[k].A (nums rs[k].xs) ∧ rs[k].xs.length = rs[k].n ∧ rs[k].n ≤ 1048576 ∧
    ∀ w' ys, Span a b w w' → Fresh w' a b 3 rs[k].A (nums ys) → ys.length = rs[k].n → FreeGrid w' lo hi A (rs.set k (rs[k].put ys)) := by
  obtain ⟨ps, g1, g2, g3⟩ := h
  have hk' : k < ps.length := by rw [g1.1]; exact hk
  have e1 : rs[k]? = some rs[k] := List.getElem?_eq_getElem hk
  have e2 : ps[k]? = some ps[k] := List.getElem?_eq_getElem hk'
  have hb := g2 _ (List.getElem_mem hk')
  obtain ⟨f1, f2, f3⟩ := g1.2.1 k _ _ e1 e2
  refine ⟨ps[k].1, ps[k].2, hb.1, hb.2, f1, f2, f3, fun w' ys hs hf hy => ⟨ps, g1.turn e1 e2 hs hf hy, g2, ?_⟩⟩
  rcases g3 with g3 | ⟨b, o, hA, hl, k1, k2, hdd, hc⟩
  · subst g3; simp at hk
  · refine .inr ⟨b, o, hA, Nat.lt_of_lt_of_le hl hs.size, k1, k2, hdd, fun j u hu => (hs.cell (p := ⟨b, o + j, none⟩) hl (by have := hdd _ (List.getElem_mem hk'); show b < ps[k].1 ∨ ps[k].2 ≤ b; omega)).trans (hc j u ?_)⟩
    rw [← hu]
    simp only [rowVals, List.getElem?_map, List.getElem?_set]
    by_cases he : k = j
    · subst he
      rw [if_pos rfl, if_pos hk, e1]
      rfl
    · rw [if_neg he]
end
/-- The ranges of lists that lie one behind the other. -/
theorem OwnRows.free {w : World} : ∀ {rs : List RowV} {lo hi : Nat}, OwnRows w lo hi rs → ∃ ps, FreeRows w ps rs ∧ ∀ p ∈ ps, lo ≤ p.1 ∧ p.2 ≤ hi
  | [], _, _, _ => ⟨[], ⟨rfl, fun k r p hr => by simp at hr, fun i j p p' _ hi => by simp at hi⟩, fun p hp => by cases hp⟩
  | r :: rs, lo, hi, ⟨mid, h1, hf, hl, hn, h2⟩ => by
    obtain ⟨ps, g, hg⟩ := h2.free
    have hle := h2.le
    refine ⟨(lo, mid) :: ps, ⟨by simp [g.1], fun k r' p hr hp => ?_, fun i j p p' hij hi hj => ?_⟩, fun p hp => ?_⟩
    · cases k with
      | zero => simp only [List.getElem?_cons_zero, Option.some.injEq] at hr hp; subst hr hp; exact ⟨hf, hl, hn⟩
      | succ k => simp only [List.getElem?_cons_succ] at hr hp; exact g.2.1 k r' p hr hp
    · cases i with
      | zero =>
        cases j with
        | zero => exact absurd rfl hij
        | succ j =>
          simp only [List.getElem?_cons_zero, List.getElem?_cons_succ, Option.some.injEq] at hi hj
          subst hi
          exact .inl (hg p' (List.mem_of_getElem? hj)).1
      | succ i =>
        cases j with
        | zero =>
          simp only [List.getElem?_cons_zero, List.getElem?_cons_succ, Option.some.injEq] at hi hj
          subst hj
          exact .inr (hg p (List.mem_of_getElem? hi)).1
        | succ j =>
          simp only [List.getElem?_cons_succ] at hi hj
          exact g.2.2 i j p p' (by omega) hi hj
    · rcases List.mem_cons.1 hp with rfl | hp
      · exact ⟨Nat.le_refl _, hle⟩
      · exact ⟨Nat.le_trans h1 (hg p hp).1, (hg p hp).2⟩
theorem OwnGrid.free {w : World} {g hi : Nat} {rs : List RowV} (h : OwnGrid w g hi rs) : FreeGrid w g hi (some ⟨g, 0, none⟩) rs := by
  obtain ⟨ps, h1, h2⟩ := h.2.free
  refine ⟨ps, h1, fun p hp => ⟨by have := (h2 p hp).1; omega, (h2 p hp).2⟩, .inr ⟨g, 0, rfl, h.1.lt, Nat.le_refl _, h.2.le, fun p hp => .inl (h2 p hp).1, fun j u hu => ?_⟩⟩
  rw [Nat.zero_add, h.1.cell j]
  simpa using hu

theorem part_sum {rs : List RowV} : part rs rs.length = (rs.map RowV.n).sum := by simp [part]
theorem part_nums {w : World} {A B : Option Addr} {rs ss : List RowV} (hA : Grid w A rs) {w' : World} (hB : Grid w' B ss) (h : rowNums rs = rowNums ss) : part rs rs.length = part ss ss.length := by
  rw [part_sum, part_sum]
  have e : ∀ {u : World} {C : Option Addr} {ts : List RowV}, Grid u C ts → ts.map RowV.n = (rowNums ts).map List.length := by
    intro u C ts hC
    rw [rowNums, List.map_map]
    exact List.map_congr_left fun r hr => (hC.2 r hr).2.1.symm
  rw [e hA, e hB, h]
theorem part_total (rs : List RowV) : part rs rs.length ≤ total rs := by unfold total; omega

/-- The first k lists overwritten by a count from q on. -/
def markTo (q : Int) (rs : List RowV) (k : Nat) : List RowV := (List.range rs.length).map fun j => if j < k then (rs.getD j ⟨none, 0, 0, []⟩).put (marksI (q + part rs j) (rs.getD j ⟨none, 0, 0, []⟩).n) else rs.getD j ⟨none, 0, 0, []⟩
theorem markTo_len (q : Int) (rs : List RowV) (k : Nat) : (markTo q rs k).length = rs.length := by simp [markTo]
theorem markTo_zero (q : Int) (rs : List RowV) : markTo q rs 0 = rs := by
  apply List.ext_getElem
  · simp [markTo]
  · intro i h1 h2
    simp [markTo, h2]
theorem markTo_at (q : Int) (rs : List RowV) (k i : Nat) (h : i < (markTo q rs k).length) : (markTo q rs k)[i] = if i < k then (rs[i]'(by rw [markTo_len] at h; exact h)).put (marksI (q + part rs i) (rs[i]'(by rw [markTo_len] at h; exact h)).n) else rs[i]'(by rw [markTo_len] at h; exact h) := by
  have h' : i < rs.length := by rw [markTo_len] at h; exact h
  simp [markTo, h']
theorem markTo_here (q : Int) (rs : List RowV) (k : Nat) (h : k < (markTo q rs k).length) : (markTo q rs k)[k] = rs[k]'(by rw [markTo_len] at h; exact h) := by
  rw [markTo_at, if_neg (by omega)]
theorem markTo_next (q : Int) (rs : List RowV) {k : Nat} (h : k < rs.length) : (markTo q rs k).set k (rs[k].put (marksI (q + part rs k) rs[k].n)) = markTo q rs (k + 1) := by
  apply List.ext_getElem
  · simp [markTo_len]
  · intro i h1 h2
    rw [List.getElem_set]
    by_cases he : k = i
    · subst he
      rw [if_pos rfl, markTo_at, if_pos (by omega)]
    · rw [if_neg he, markTo_at, markTo_at]
      by_cases hi : i < k
      · rw [if_pos hi, if_pos (by omega)]
      · rw [if_neg hi, if_neg (by omega)]

end Go.Proofs.Ytgojakcepbdajaa

namespace Go.Proofs.Ytgojakcepbdajaa
open Go.RowKit

def hasK (l : List Int) (x : Int) : Bool := l.contains x

def NoneI (bs : List Int) (t : Int) (k : Nat) : Prop := ∀ j (h : j < bs.length), j < k → bs[j] ≠ t
theorem NoneI.next {bs : List Int} {t : Int} {k : Nat} (h : NoneI bs t k) (hk : k < bs.length) (hne : bs[k] ≠ t) : NoneI bs t (k + 1) := fun j hj hlt => by
  rcases (show j < k ∨ j = k by omega) with h1 | h1
  · exact h j hj h1
  · subst h1
    exact hne
def IndexI (bs : List Int) (t : Int) (w : World) (e : Ending) (w' : World) : Prop := ∃ r : Int, e = .returned (.int .i64 r) ∧ decide (0 ≤ r) = bs.any (· == t) ∧ w = w'

set_option maxHeartbeats 400000 in
theorem sliceIndexI_any (B : Option Addr) (m d : Nat) (bs : List Int) (t : Int) (w : World) (hB : Holds w B (nums bs)) (hy : bs.length = m) (hm : m ≤ 9223372036854775807) :
    Calls Try.prog 49 #[.slice B m d, .int .i64 t] w (IndexI bs t w) := by
  subst hy
  go_enter Try.func49, Try.ntmps49
  go_wp2
  go_loop [8] (fun i => ∃ k : Nat, k ≤ bs.length ∧ i = .int .i64 k ∧ NoneI bs t k) (fun i => bs.length - (intOf i).toNat)
  case atStart => exact ⟨0, Nat.zero_le _, rfl, fun _ _ h => absurd h (by omega)⟩
  case round =>
    obtain ⟨k, hk, rfl, hs⟩ := hrel
    by_cases hlt : k < bs.length
    · obtain ⟨b, o, rfl, hb, hc⟩ := hB.look (k := k) (by simpa [nums] using hlt)
      simp only [nums, List.getElem_map] at hc
      by_cases he : bs[k] = t
      · have HP : Hid (bs.any (· == t) = true) := by
          show _ = _
          rw [List.any_eq_true]
          exact ⟨bs[k], List.getElem_mem hlt, by simp [he]⟩
        have ht : (t == bs[k]) = true := by simp [he]
        clear he
        go_wp2
        go_ret
        exact ⟨(k : Int), rfl, by rw [HP.out]; simp, rfl⟩
      · have ht : (t == bs[k]) = false := by simp; exact fun h => he h.symm
        have HN := Lib.hid he
        have HS := Lib.hid hs
        clear he hs
        go_wp2
        go_round
        case rel => exact ⟨k + 1, by omega, by go_num, NoneI.next HS.out hlt HN.out⟩
        case measure => simp [intOf]; omega
    · have HP : Hid (bs.any (· == t) = false) := by
        show _ = _
        rw [List.any_eq_false]
        intro x hx
        obtain ⟨j, hj, rfl⟩ := List.getElem_of_mem hx
        simpa using hs j hj (by omega)
      clear hs
      go_wp2
      go_ret
      exact ⟨-1, rfl, by rw [HP.out]; rfl, rfl⟩

end Go.Proofs.Ytgojakcepbdajaa

namespace Go.Proofs.Ytgojakcepbdajaa
open Go.RowKit


/-- A list of lists that the call makes and goes on with: its heads in a block of the call's own, each row in a range of blocks of its own, all from lo on. -/
def Heads (w : World) (lo : Nat) (A : Option Addr) (c : Nat) (rs : List RowV) : Prop :=
  w.ownsRow lo 25 1 (.slice A rs.length c) rs.length (rowVals rs) ∧
    ∃ ps, FreeRows w ps rs ∧ (∀ p ∈ ps, lo ≤ p.1 ∧ p.2 ≤ w.heap.size) ∧ ∀ a : Addr, A = some a → ∀ p ∈ ps, a.block < p.1 ∨ p.2 ≤ a.block
theorem Heads.nil (w : World) (lo : Nat) : Heads w lo none 0 [] :=
  ⟨World.ownsRow_nil _ _ _ _, [], ⟨rfl, fun k r p h => by simp at h, fun i j p p' _ h => by simp at h⟩, fun p h => by simp at h, fun a h => by cases h⟩
theorem own_keep {w w' : World} {base : Nat} {e : TypeId} {size : Nat} {v : Value} {n : Nat} {xs : List Value} (h : w.ownsRow base e size v n xs) (hb : Below w.heap.size w w') : w'.ownsRow base e size v n xs := by
  obtain ⟨hl, h | ⟨g, cap, cur, hv, hg, hh, r⟩⟩ := h
  · exact ⟨hl, .inl h⟩
  · exact ⟨hl, .inr ⟨g, cap, cur, hv, hg, (hb.block g (Array.getElem?_eq_some_iff.1 hh).1).trans hh, r⟩⟩
theorem Heads.below {w w' : World} {lo c : Nat} {A : Option Addr} {rs : List RowV} (h : Heads w lo A c rs) (hb : Below w.heap.size w w') : Heads w' lo A c rs := by
  obtain ⟨h1, ps, h2, h3, h4⟩ := h
  exact ⟨own_keep h1 hb, ps, h2.below hb, fun p hp => ⟨(h3 p hp).1, Nat.le_trans (h3 p hp).2 hb.size⟩, h4⟩
theorem Heads.alloc {w : World} {lo c : Nat} {A : Option Addr} {rs : List RowV} (h : Heads w lo A c rs) (o : Obj) : Heads (w.alloc o) lo A c rs := h.below (below1 w o)
theorem fresh_grown {w w' : World} {lo hi : Nat} {ty : TypeId} {A : Option Addr} {xs : List Value} {row : Option Nat} (hf : Fresh w lo hi ty A xs) (hg : w.grownBy w' row) (hd : ∀ g, row = some g → g < lo ∨ hi ≤ g) : Fresh w' lo hi ty A xs := by
  rcases hf with h | ⟨g, cs, hA, h1, h2, hw, h3, h4⟩
  · exact .inl h
  · refine .inr ⟨g, cs, hA, h1, h2, ?_, h3, h4⟩
    exact (hg.block g hw.lt (fun e => by have := hd g e.symm; omega)).trans hw
/-- A row more. -/
theorem Heads.push {w w1 w2 : World} {lo c cap g : Nat} {A : Option Addr} {rs : List RowV} {r : RowV} (h : Heads w lo A c rs) (hlo : lo ≤ w.heap.size) (hb : Below w.heap.size w w1) (hr : Fresh w1 w.heap.size w1.heap.size 3 r.A (nums r.xs)) (hl : r.xs.length = r.n) (hn : r.n ≤ 1048576)
    (hown : w2.ownsRow lo 25 1 (.slice (some ⟨g, 0, none⟩) (rs.length + 1) cap) (rs.length + 1) (rowVals rs ++ [r.val])) (hg : (w1.alloc (.cells #[r.val] 25)).grownBy w2 (Value.slice A rs.length c).ownBlock)
    (hat : (Value.slice A rs.length c).ownBlock = some g ∨ g = w1.heap.size + 1) : Heads w2 lo (some ⟨g, 0, none⟩) cap (rs ++ [r]) := by
  obtain ⟨h1, ps, ⟨k1, k2, k3⟩, h3, h4⟩ := h
  have hsz := hb.size
  have hsg : w1.heap.size + 1 ≤ w2.heap.size := by have := hg.size; simpa using this
  have hob : ∀ q, (Value.slice A rs.length c).ownBlock = some q → ∃ a : Addr, A = some a ∧ a.block = q ∧ q < w.heap.size := by
    intro q hq
    cases A with
    | none => simp [Value.ownBlock] at hq
    | some a => exact ⟨a, rfl, by simpa [Value.ownBlock] using hq, (h1.lt q hq).2⟩
  refine ⟨by rw [List.length_append]; show World.ownsRow _ _ _ _ _ _ _; simpa [rowVals] using hown, ps ++ [(w.heap.size, w1.heap.size)], ⟨by simp [k1], ?_, ?_⟩, ?_, ?_⟩
  · intro k r' p' hr' hp'
    rcases Nat.lt_or_ge k rs.length with hk | hk
    · rw [List.getElem?_append_left hk] at hr'
      rw [List.getElem?_append_left (by omega)] at hp'
      obtain ⟨f1, f2⟩ := k2 k r' p' hr' hp'
      have hm := List.mem_of_getElem? hp'
      refine ⟨fresh_grown ((f1.below hb).alloc _) hg fun q hq => ?_, f2⟩
      obtain ⟨a, hA, hq2, -⟩ := hob q hq
      have := h4 a hA p' hm
      omega
    · have hke : k = rs.length := by
        have := (List.getElem?_eq_some_iff.1 hr').1
        simp at this
        omega
      subst hke
      rw [List.getElem?_append_right (Nat.le_refl _)] at hr'
      rw [List.getElem?_append_right (by omega), k1] at hp'
      simp at hr' hp'
      subst hr' hp'
      exact ⟨fresh_grown (hr.alloc _) hg fun q hq => by obtain ⟨a, -, -, hlt⟩ := hob q hq; exact .inl hlt, hl, hn⟩
  · intro i j p p' hij hp hp'
    have hlen : ∀ {i : Nat} {p : Nat × Nat}, (ps ++ [(w.heap.size, w1.heap.size)])[i]? = some p → (i < ps.length ∧ ps[i]? = some p) ∨ (i = ps.length ∧ p = (w.heap.size, w1.heap.size)) := by
      intro i p hp
      rcases Nat.lt_or_ge i ps.length with hi | hi
      · rw [List.getElem?_append_left hi] at hp
        exact .inl ⟨hi, hp⟩
      · have hie : i = ps.length := by
          have := (List.getElem?_eq_some_iff.1 hp).1
          simp at this
          omega
        subst hie
        rw [List.getElem?_append_right (Nat.le_refl _)] at hp
        simp at hp
        exact .inr ⟨rfl, hp.symm⟩
    rcases hlen hp with ⟨hi, hp⟩ | ⟨hi, rfl⟩ <;> rcases hlen hp' with ⟨hj, hp'⟩ | ⟨hj, rfl⟩
    · exact k3 i j p p' hij hp hp'
    · exact .inl (h3 p (List.mem_of_getElem? hp)).2
    · exact .inr (h3 p' (List.mem_of_getElem? hp')).2
    · omega
  · intro p hp
    rcases List.mem_append.1 hp with hp | hp
    · exact ⟨(h3 p hp).1, by have := (h3 p hp).2; omega⟩
    · simp only [List.mem_singleton] at hp
      subst hp
      exact ⟨hlo, by show w1.heap.size ≤ _; omega⟩
  · intro a ha p hp
    obtain rfl : (⟨g, 0, none⟩ : Addr) = a := Option.some.inj ha
    show g < p.1 ∨ p.2 ≤ g
    rcases List.mem_append.1 hp with hp | hp
    · rcases hat with hat | hat
      · obtain ⟨a, hA, hq2, -⟩ := hob g hat
        have := h4 a hA p hp
        omega
      · have := (h3 p hp).2
        omega
    · simp only [List.mem_singleton] at hp
      subst hp
      show g < w.heap.size ∨ w1.heap.size ≤ g
      rcases hat with hat | hat
      · obtain ⟨-, -, -, hlt⟩ := hob g hat
        exact .inl hlt
      · omega
/-- What was made is the call's own, all of it. -/
theorem Heads.free {w : World} {lo c : Nat} {A : Option Addr} {rs : List RowV} (h : Heads w lo A c rs) : FreeGrid w lo w.heap.size A rs := by
  obtain ⟨h1, ps, h2, h3, h4⟩ := h
  refine ⟨ps, h2, h3, ?_⟩
  rcases own_some h1 with ⟨rfl, hn, -⟩ | ⟨g, rfl, -⟩
  · exact .inl (List.length_eq_zero_iff.1 hn)
  · obtain ⟨-, ⟨hv, -⟩ | ⟨g', cap, cur, hv, hb, hh, -, -, -, ht⟩⟩ := h1
    · simp at hv
    · obtain ⟨rfl, -⟩ : g = g' ∧ c = cap := by simpa using hv
      have hlt := (Array.getElem?_eq_some_iff.1 hh).1
      refine .inr ⟨g, 0, rfl, hlt, hb, hlt, fun p hp => h4 _ rfl p hp, fun j u hu => ?_⟩
      rw [Nat.zero_add, (show Whole w g 25 cur from hh).cell j]
      rw [← ht, List.getElem?_take] at hu
      split at hu
      · simpa using hu
      · simp at hu
/-- What a call hands back that makes a list of lists. -/
def RowsPost (ls : List (List Int)) (w : World) (e : Ending) (w' : World) : Prop :=
  ∃ (A : Option Addr) (c : Nat) (rs : List RowV), e = .returned (.slice A rs.length c) ∧ rowNums rs = ls ∧ FreeGrid w' w.heap.size w'.heap.size A rs ∧ Below w.heap.size w w'
end Go.Proofs.Ytgojakcepbdajaa

namespace Go.Proofs.Ytgojakcepbdajaa
open Go.RowKit

/-- The first place of a number. -/
def IndexF (bs : List Int) (t : Int) (w : World) (e : Ending) (w' : World) : Prop := ∃ (r : Nat) (h : r < bs.length), e = .returned (.int .i64 (r : Int)) ∧ bs[r] = t ∧ NoneI bs t r ∧ w = w'

set_option maxHeartbeats 400000 in
theorem sliceIndexF_any (B : Option Addr) (m d : Nat) (bs : List Int) (t : Int) (w : World) (hB : Holds w B (nums bs)) (hy : bs.length = m) (hm : m ≤ 9223372036854775807) (hin : t ∈ bs) :
    Calls Try.prog 49 #[.slice B m d, .int .i64 t] w (IndexF bs t w) := by
  subst hy
  have HIN := Lib.hid hin
  clear hin
  go_enter Try.func49, Try.ntmps49
  go_wp2
  go_loop [8] (fun i => ∃ k : Nat, k ≤ bs.length ∧ i = .int .i64 k ∧ NoneI bs t k) (fun i => bs.length - (intOf i).toNat)
  case atStart => exact ⟨0, Nat.zero_le _, rfl, fun _ _ h => absurd h (by omega)⟩
  case round =>
    obtain ⟨k, hk, rfl, hs⟩ := hrel
    by_cases hlt : k < bs.length
    · obtain ⟨b, o, rfl, hb, hc⟩ := hB.look (k := k) (by simpa [nums] using hlt)
      simp only [nums, List.getElem_map] at hc
      by_cases he : bs[k] = t
      · have HE := Lib.hid he
        have HS := Lib.hid hs
        have ht : (t == bs[k]) = true := by simp [he]
        clear he hs
        go_wp2
        go_ret
        exact ⟨k, hlt, rfl, HE.out, HS.out, rfl⟩
      · have ht : (t == bs[k]) = false := by simp; exact fun h => he h.symm
        have HN := Lib.hid he
        have HS := Lib.hid hs
        clear he hs
        go_wp2
        go_round
        case rel => exact ⟨k + 1, by omega, by go_num, NoneI.next HS.out hlt HN.out⟩
        case measure => simp [intOf]; omega
    · exfalso
      obtain ⟨j, hj, he⟩ := List.getElem_of_mem HIN.out
      exact hs j hj (by omega) he
theorem leastOf_le {l : List Int} {x : Int} (hx : x ∈ l) : leastOf l ≤ x :=
  (le_leastOf (List.ne_nil_of_mem hx) _).1 (Int.le_refl _) x hx
theorem leastOf_mem {l : List Int} (h : l ≠ []) : leastOf l ∈ l := by
  apply Classical.byContradiction
  intro hn
  have := (le_leastOf h (leastOf l + 1)).2 fun y hy => by
    have h1 := leastOf_le hy
    have h2 : leastOf l ≠ y := fun e => hn (by rw [e]; exact hy)
    omega
  omega
end Go.Proofs.Ytgojakcepbdajaa
