/-
  What is proved: plain facts on lists of crowds that the call itself makes. Conditions: none.
  What is proved: contracts of the laws' own helpers for lists of lists of numbers: their size, their copy, their comparison. Conditions: the given lists are read as they lie; a copy is of at most 1,048,576 numbers.
  What is proved: contracts of the laws' copy and comparison of lists of lists of numbers. Conditions: the given lists are read as they lie; a copy is of at most 1,048,576 numbers.
  What is proved: lists of lists of the call's own, and contracts of the laws' marks on them. Conditions: the rows are new, open to writes and apart from each other; counts are small.
  What is proved: contracts of a byte written to a strings.Builder of the call's own, in this program's numbers. Conditions: the builder is only written; fewer than 2^47 bytes.
  What is proved: the contract of the model's copy of a list (l1Own), and plain facts on lists of the call's own. Conditions: the list is read as it lies; at most 1,048,576 numbers.
  What is proved: the contract of a trip made by the model. Conditions: the trip is one.
  What is proved: the contract of trips made one after the other by the model. Conditions: the arguments are read as they lie; there is somebody.
  What is proved: a list of lists that the call makes row by row. Conditions: each new row is the call's own, in a range of blocks that no other one meets.
  What is proved: plain facts on lists of moves (a list and the place behind it) that the call itself makes, each list in memory of its own. Conditions: as each says.
  What is proved: plain facts on the bits of small numbers, and how the model's int words go over to them. Conditions: the numbers are small.
  What is proved: contracts of the model's and the program's tests of a calm group. Conditions: at most four couples.
  What is proved: contracts of the model's bits of a group, of the program's closure that tells calm crowds, and of both IsCalmGroup. Conditions: the lists are read as they lie.
  What is proved: contracts of the model's and of the program's IsCalmGroup. Conditions: the lists are read as they lie.
  What is proved: contracts of the model's and the program's tests of a company, and of the law's copy of one. Conditions: none.
  What is proved: contracts of the model's numbers of states of a company, of its tests of a state and of a calm one, and of its IsCalm. Conditions: the arguments are read as they lie.
  What is proved: contracts of the model's test of a state of a company and of its IsCalm. Conditions: the arguments are read as they lie.
  What is proved: a crowd without the people of another one, as the program makes it. Conditions: none.
  What is proved: contracts of the program's closure that tells calm places, and of calmPlaces, which makes it. Conditions: at most four couples.
  What is proved: contracts of the program's calmPlaces, of its place of a company's state, and of its IsCalm. Conditions: the arguments are read as they lie.
  What is proved: the cells of a small block that is known whole. Conditions: none.
  What is proved: the contract of the model's state with a number. Conditions: at most four couples.
  What is proved: the contract of the model's CountCalm. Conditions: none.
  What is proved: plain facts on a struct of the call's own that is handed back by a call in a statement whose order is open. Conditions: none.
  What is proved: contracts of a party slowed down, as the model and the program make it. Conditions: the party's times are read as they lie.
  What is proved: contracts of a party without one person, as the model makes it; append onto a list of the call's own inside a region that draws. Conditions: the party's times are read as they lie.
  What is proved: plain facts on the rising lists that begin with some people and go on with others, and on lists of lists put one behind the other. Conditions: none.
  What is proved: the contract of the program's listsFrom: the rising lists that begin with some people and go on with others. Conditions: the lists are read as they lie; at most eight others, and at most eight to begin with.
  What is proved: the contract of crowd.list: the people of a crowd in their order. Conditions: a crowd of a strictly rising list of numbers from 0 to 7.
-/
import Derived.Lib.Builder
import Derived.Shelf.Strings.Builder1
import Derived.Laws.AppendOwnNone
import Derived.Deep.DeepCutAuto
import Derived.Deep.AppendLies
import Derived.Deep.LoopGhost
import Derived.Deep.RegionHeld3
import Derived.Laws.EntriesVeiled
import Derived.Test.YtlpeimlbpiofkaaJ1FewestOfCrew
set_option linter.unusedSimpArgs false
set_option linter.unusedVariables false
namespace Go.Proofs.Ytlpeimlbpiofkaa
open Go.RowKit

/-- The cells of the trips' own list. -/
def crowdsOf (ls : List (List Int)) : List Value := ls.flatMap fun l => (crowdCells l).toList
theorem crowdsOf_len (ls : List (List Int)) : (crowdsOf ls).length = ls.length * 8 := by
  induction ls with
  | nil => rfl
  | cons l ls ih => simp only [crowdsOf, List.flatMap_cons, List.length_append] at ih ⊢; rw [ih]; simp [crowdCells]; omega
theorem crowdsOf_next {ls : List (List Int)} {k : Nat} (hk : k < ls.length) : crowdsOf (ls.take k) ++ (crowdCells ls[k]).toList = crowdsOf (ls.take (k + 1)) := by
  rw [List.take_succ_eq_append_getElem hk]
  simp only [crowdsOf, List.flatMap_append, List.flatMap_cons, List.flatMap_nil, List.append_nil]
theorem info_crowd : (Try.prog.info? 73).map (fun i => (i.zero, i.size, i.bytes)) = some (some (.agg #[.bool false, .bool false, .bool false, .bool false, .bool false, .bool false, .bool false, .bool false]), 8, 8) := by kernel_rfl

theorem ownsRow_below {w w' : World} {base : Nat} {e : TypeId} {size : Nat} {v : Value} {n : Nat} {xs : List Value} (h : w.ownsRow base e size v n xs) (hb : Below w.heap.size w w') : w'.ownsRow base e size v n xs := by
  obtain ⟨hl, h | ⟨g, cap, cur, hv, hg, hh, r⟩⟩ := h
  · exact ⟨hl, .inl h⟩
  · exact ⟨hl, .inr ⟨g, cap, cur, hv, hg, (hb.block g (Array.getElem?_eq_some_iff.1 hh).1).trans hh, r⟩⟩
theorem ownsRow_only {w w' : World} {base g : Nat} {e : TypeId} {size : Nat} {v : Value} {n : Nat} {xs : List Value} (h : w.ownsRow base e size v n xs) (ho : Only g w w') (hg : g < base) : w'.ownsRow base e size v n xs := by
  obtain ⟨hl, h | ⟨q, cap, cur, hv, hq, hh, r⟩⟩ := h
  · exact ⟨hl, .inl h⟩
  · exact ⟨hl, .inr ⟨q, cap, cur, hv, hq, (ho.block q (by omega)).trans hh, r⟩⟩
theorem own_form {w : World} {base : Nat} {e : TypeId} {size : Nat} {v : Value} {n : Nat} {xs : List Value} (h : w.ownsRow base e size v (n + 1) xs) : ∃ g cap, v = .slice (some ⟨g, 0, none⟩) (n + 1) cap := by
  obtain ⟨-, ⟨-, h⟩ | ⟨g, cap, -, hv, -⟩⟩ := h
  · omega
  · exact ⟨g, cap, hv⟩
theorem cells_new (w : World) (ty : TypeId) (cs : Array Value) : ∀ j u, cs.toList[j]? = some u → (w.alloc (.cells cs ty)).cell? ((⟨w.heap.size, 0, none⟩ : Addr).add j) = some u := fun j u hu => by
  rw [show (⟨w.heap.size, 0, none⟩ : Addr).add j = ⟨w.heap.size, j, none⟩ from by unfold Addr.add; split <;> simp_all, (Whole.fresh w ty cs).cell j]
  simpa using hu
theorem crowd_ones (l : List Int) : ∀ u ∈ (crowdCells l).toList, u.oneCell' = true := by
  have h := crowd_one l
  rw [Array.all_eq_true_iff_forall_mem] at h
  exact fun u hu => h u (by simpa using hu)
end Go.Proofs.Ytlpeimlbpiofkaa

namespace Go.Proofs.Ytlpeimlbpiofkaa
open Go.RowKit

/-- One list among others: where it lies, its length, its room, its numbers. -/
structure RowV where
  A : Option Addr
  n : Nat
  c : Nat
  xs : List Int
def RowV.val (r : RowV) : Value := .slice r.A r.n r.c
def rowVals (rs : List RowV) : List Value := rs.map RowV.val
def rowNums (rs : List RowV) : List (List Int) := rs.map RowV.xs
theorem rowVals_len (rs : List RowV) : (rowVals rs).length = rs.length := by simp [rowVals]
theorem rowNums_len (rs : List RowV) : (rowNums rs).length = rs.length := by simp [rowNums]
def RowOk (w : World) (r : RowV) : Prop := Holds w r.A (nums r.xs) ∧ r.xs.length = r.n ∧ r.n ≤ 9223372036854775807
/-- From A on the world holds these lists. -/
def Grid (w : World) (A : Option Addr) (rs : List RowV) : Prop := Holds w A (rowVals rs) ∧ ∀ r ∈ rs, RowOk w r
theorem RowOk.below {w w' : World} {r : RowV} (h : RowOk w r) (hb : Below w.heap.size w w') : RowOk w' r := ⟨h.1.below hb, h.2⟩
theorem Grid.below {w w' : World} {A : Option Addr} {rs : List RowV} (h : Grid w A rs) (hb : Below w.heap.size w w') : Grid w' A rs := ⟨h.1.below hb, fun r hr => (h.2 r hr).below hb⟩
theorem Grid.alloc {w : World} {A : Option Addr} {rs : List RowV} (h : Grid w A rs) (o : Obj) : Grid (w.alloc o) A rs := h.below (below1 w o)
theorem Grid.drew {w : World} {A : Option Addr} {rs : List RowV} (h : Grid w A rs) : Grid w.drew A rs := h
theorem Grid.look {w : World} {A : Option Addr} {rs : List RowV} (h : Grid w A rs) {k : Nat} (hk : k < rs.length) :
    ∃ b o, A = some ⟨b, o, none⟩ ∧ b < w.heap.size ∧ w.cell? ⟨b, o + k, none⟩ = some (.slice rs[k].A rs[k].n rs[k].c) ∧ RowOk w rs[k] := by
  obtain ⟨b, o, hA, hb, hc⟩ := h.1.look (k := k) (by rw [rowVals_len]; exact hk)
  refine ⟨b, o, hA, hb, ?_, h.2 _ (List.getElem_mem hk)⟩
  rw [hc]
  simp [rowVals, RowV.val]

/-- The lengths of the first k lists together. -/
def part (rs : List RowV) (k : Nat) : Nat := ((rs.take k).map RowV.n).sum
/-- The length and all lengths together. -/
def total (rs : List RowV) : Nat := rs.length + part rs rs.length
theorem part_zero (rs : List RowV) : part rs 0 = 0 := rfl
theorem part_next {rs : List RowV} {k : Nat} (hk : k < rs.length) : part rs (k + 1) = part rs k + rs[k].n := by
  rw [part, part, List.take_succ_eq_append_getElem hk, List.map_append, List.sum_append]
  simp
theorem part_le {rs : List RowV} : ∀ {k : Nat}, k ≤ rs.length → ∀ {j : Nat}, j ≤ k → part rs j ≤ part rs k
  | 0, _, j, hj => by obtain rfl : j = 0 := by omega
                      exact Nat.le_refl _
  | k + 1, hk, j, hj => by
    rcases Nat.lt_or_ge j (k + 1) with h | h
    · have h1 := part_le (rs := rs) (k := k) (by omega) (j := j) (by omega)
      have h2 := part_next (rs := rs) (k := k) (by omega)
      omega
    · obtain rfl : j = k + 1 := by omega
      exact Nat.le_refl _
theorem total_row {rs : List RowV} {k : Nat} (hk : k < rs.length) : rs[k].n ≤ total rs := by
  have h1 := part_next hk
  have h2 := part_le (rs := rs) (Nat.le_refl _) (j := k + 1) (by omega)
  unfold total
  omega
theorem total_len (rs : List RowV) : rs.length ≤ total rs := by unfold total; omega
def totalLeft (rs : List RowV) (l : Int) : Int := if l < (total rs : Int) then -1 else l - (total rs : Int)
theorem totalLeft_no {rs : List RowV} {l : Int} {k : Nat} (hk : k ≤ rs.length) (h : l < (rs.length : Int) + (part rs k : Int)) : totalLeft rs l = -1 := by
  have h2 := part_le (rs := rs) (Nat.le_refl _) (j := k) hk
  rw [totalLeft, if_pos (by unfold total; omega)]
theorem totalLeft_yes {rs : List RowV} {l : Int} (h : (rs.length : Int) + (part rs rs.length : Int) ≤ l) : totalLeft rs l = l - ((rs.length : Int) + (part rs rs.length : Int)) := by
  rw [totalLeft, if_neg (by unfold total; omega)]
  unfold total
  omega

end Go.Proofs.Ytlpeimlbpiofkaa

namespace Go.Proofs.Ytlpeimlbpiofkaa
open Go.RowKit

/-- Lists of the call's own, each in blocks behind those of the one before. -/
def OwnRows (w : World) : Nat → Nat → List RowV → Prop
  | lo, hi, [] => lo ≤ hi
  | lo, hi, r :: rs => ∃ mid, lo ≤ mid ∧ Fresh w lo mid 3 r.A (nums r.xs) ∧ r.xs.length = r.n ∧ r.n ≤ 1048576 ∧ OwnRows w mid hi rs
theorem OwnRows.le {w : World} : ∀ {rs : List RowV} {lo hi : Nat}, OwnRows w lo hi rs → lo ≤ hi
  | [], _, _, h => h
  | _ :: _, _, _, ⟨_, h1, _, _, _, h2⟩ => Nat.le_trans h1 h2.le
theorem OwnRows.more {w : World} : ∀ {rs : List RowV} {lo hi hi' : Nat}, OwnRows w lo hi rs → hi ≤ hi' → OwnRows w lo hi' rs
  | [], _, _, _, h, h' => Nat.le_trans h h'
  | _ :: _, _, _, _, ⟨m, h1, hf, hl, hn, h2⟩, h' => ⟨m, h1, hf, hl, hn, h2.more h'⟩
theorem OwnRows.below {w w' : World} (hb : Below w.heap.size w w') : ∀ {rs : List RowV} {lo hi : Nat}, OwnRows w lo hi rs → OwnRows w' lo hi rs
  | [], _, _, h => h
  | _ :: _, _, _, ⟨m, h1, hf, hl, hn, h2⟩ => ⟨m, h1, hf.below hb, hl, hn, h2.below hb⟩
theorem OwnRows.set_out {w : World} {b o : Nat} {u : Value} : ∀ {rs : List RowV} {lo hi : Nat}, OwnRows w lo hi rs → (b < lo ∨ hi ≤ b) → OwnRows (w.setCell ⟨b, o, none⟩ u) lo hi rs
  | [], _, _, h, _ => h
  | _ :: _, _, _, ⟨m, h1, hf, hl, hn, h2⟩, hd => ⟨m, h1, hf.set_out (by have := h2.le; omega), hl, hn, h2.set_out (by omega)⟩
theorem OwnRows.snoc {w : World} {r : RowV} : ∀ {rs : List RowV} {lo mid hi : Nat}, OwnRows w lo mid rs → mid ≤ hi → Fresh w mid hi 3 r.A (nums r.xs) → r.xs.length = r.n → r.n ≤ 1048576 → OwnRows w lo hi (rs ++ [r])
  | [], _, _, hi, h, hm, hf, hl, hn => ⟨hi, Nat.le_trans h hm, hf.more h (Nat.le_refl _), hl, hn, Nat.le_refl _⟩
  | _ :: _, _, _, _, ⟨m, h1, hg, hk, ho, h2⟩, hm, hf, hl, hn => ⟨m, h1, hg, hk, ho, h2.snoc hm hf hl hn⟩
theorem OwnRows.ok {w : World} : ∀ {rs : List RowV} {lo hi : Nat}, OwnRows w lo hi rs → ∀ r ∈ rs, RowOk w r
  | [], _, _, _, _, hr => by cases hr
  | r :: rs, _, _, ⟨_, _, hf, hl, hn, h2⟩, x, hx => by
    rcases List.mem_cons.1 hx with rfl | hx
    · exact ⟨hf.holds, hl, by omega⟩
    · exact h2.ok x hx
/-- Lists of lists of the call's own: block g tells where they lie, the lists are behind it and before hi. -/
def OwnGrid (w : World) (g hi : Nat) (rs : List RowV) : Prop := Whole w g 22 (rowVals rs).toArray ∧ OwnRows w (g + 1) hi rs
theorem OwnGrid.grid {w : World} {g hi : Nat} {rs : List RowV} (h : OwnGrid w g hi rs) : Grid w (some ⟨g, 0, none⟩) rs :=
  ⟨h.1.holds, h.2.ok⟩
theorem OwnGrid.below {w w' : World} {g hi : Nat} {rs : List RowV} (h : OwnGrid w g hi rs) (hb : Below w.heap.size w w') : OwnGrid w' g hi rs := ⟨h.1.below hb, h.2.below hb⟩
theorem OwnGrid.alloc {w : World} {g hi : Nat} {rs : List RowV} (h : OwnGrid w g hi rs) (o : Obj) : OwnGrid (w.alloc o) g hi rs := h.below (below1 w o)
theorem OwnGrid.drew {w : World} {g hi : Nat} {rs : List RowV} (h : OwnGrid w g hi rs) : OwnGrid w.drew g hi rs := h.below ⟨rfl, rfl, rfl, Nat.le_refl _, fun _ _ => rfl⟩

/-- What stands in the copy's block behind k rounds. -/
def filledR (ws : List RowV) (n : Nat) : Array Value := (rowVals ws ++ List.replicate (n - ws.length) (Value.slice none 0 0)).toArray
theorem filledR_done {ws : List RowV} {n : Nat} (h : ws.length = n) : filledR ws n = (rowVals ws).toArray := by simp [filledR, h]
theorem filledR_at {ws : List RowV} {n : Nat} (h : ws.length < n) : (filledR ws n)[ws.length]? = some (.slice none 0 0) := by
  simp only [filledR, List.getElem?_toArray]
  rw [List.getElem?_append_right (by rw [rowVals_len]; omega)]
  simp [rowVals_len, List.getElem?_replicate]
  omega
theorem filledR_next {ws : List RowV} {n : Nat} (r : RowV) (h : ws.length < n) : (filledR ws n).setIfInBounds ws.length r.val = filledR (ws ++ [r]) n := by
  obtain ⟨m, hm⟩ : ∃ m, n - ws.length = m + 1 := ⟨n - ws.length - 1, by omega⟩
  have hm' : n - (ws ++ [r]).length = m := by simp; omega
  unfold filledR
  rw [hm, hm', List.replicate_succ]
  simp only [rowVals, List.map_append, List.map_cons, List.map_nil, List.append_assoc, List.singleton_append]
  rw [List.setIfInBounds_toArray]
  congr 1
  rw [List.set_append_right _ _ (by simp)]
  simp
theorem made_rows (n : Nat) : madeCells (Value.slice none 0 0).cells (n * 1) = (List.replicate n (Value.slice none 0 0)).toArray := by
  apply Array.ext_getElem?
  intro j
  simp [madeCells, Value.cells, Nat.mod_one, Array.getElem?_range]
  by_cases h : j < n <;> simp [h]
theorem info_row : (Try.prog.info? 22).map (fun i => (i.zero, i.size, i.bytes)) = some (some (.slice none 0 0), 1, 24) := by kernel_rfl

/-- What toIntSS hands back. -/
def GridPost (n : Nat) (rs : List RowV) (w : World) (e : Ending) (w' : World) : Prop :=
  ∃ (g : Nat) (ws : List RowV), e = .returned (.slice (some ⟨g, 0, none⟩) n n) ∧ w.heap.size ≤ g ∧ OwnGrid w' g w'.heap.size ws ∧ rowNums ws = rowNums rs ∧ ws.length = n ∧ Below w.heap.size w w'

theorem rowNums_next {ws rs : List RowV} {k : Nat} {r : RowV} (h : rowNums ws = (rowNums rs).take k) (hk : k < rs.length) (hr : r.xs = rs[k].xs) : rowNums (ws ++ [r]) = (rowNums rs).take (k + 1) := by
  rw [List.take_succ_eq_append_getElem (by rw [rowNums_len]; exact hk), ← h]
  simp [rowNums, hr]

/-- Two lists of one reading are the same; nothing but draws. -/
theorem eqIntS_drawn (A B : Option Addr) (n m c d : Nat) (xs ys : List Int) (w : World) (k : Nat) (hA : Holds (w.drewN k) A (nums xs)) (hB : Holds (w.drewN k) B (nums ys)) (hx : xs.length = n) (hy : ys.length = m) (he : xs = ys) (hn : n ≤ 9223372036854775807) :
    Calls Try.prog 56 #[.slice A n c, .slice B m d] (w.drewN k) fun e w'' => e = .returned (.bool true) ∧ ∃ q, w'' = w.drewN q :=
  Calls.quiet_of ((eqIntS_any A B n m c d xs ys _ hA hB hx hy hn (by subst he; omega)).mono fun _ _ ⟨h, q⟩ => ⟨by rw [h, sameInts_yes he], q⟩)

theorem rowNums_at {rs ss : List RowV} (h : rowNums rs = rowNums ss) {k : Nat} (hk : k < rs.length) (hk' : k < ss.length) : rs[k].xs = ss[k].xs := by
  have h1 := congrArg (fun l : List (List Int) => l[k]?) h
  simpa [rowNums, hk, hk'] using h1

set_option maxHeartbeats 800000 in
theorem eqIntSS_yes (A B : Option Addr) (n m c d : Nat) (rs ss : List RowV) (w : World) (hA : Grid w A rs) (hB : Grid w B ss) (he : rowNums rs = rowNums ss) (hx : rs.length = n) (hy : ss.length = m) (hn : n ≤ 9223372036854775807) :
    Calls Try.prog 22 #[.slice A n c, .slice B m d] w fun e w' => e = .returned (.bool true) ∧ Below w.heap.size w w' := by
  have hl : rs.length = ss.length := by rw [← rowNums_len rs, ← rowNums_len ss, he]
  subst hx hy
  have hl' : ((rs.length : Int) != (ss.length : Int)) = false := by simp [hl]
  have HL := Lib.hid hl
  have HE := Lib.hid he
  clear hl he
  go_enter Try.func22, Try.ntmps22
  go_wp2
  go_loopw [5] (fun i wr => ∃ k : Nat, k ≤ rs.length ∧ i = .int .i64 k ∧ Below w.heap.size w wr) (fun i _ => rs.length - (intOf i).toNat)
  case atStart => exact ⟨0, Nat.zero_le _, rfl, Below.refl _ _⟩
  case round =>
    obtain ⟨k, hk, rfl, hb⟩ := hrel
    by_cases hlt : k < rs.length
    · have hlt' : k < ss.length := by have := HL.out; omega
      obtain ⟨b, o, rfl, hbl, hc, hok⟩ := (hA.below hb).look hlt
      obtain ⟨b', o', rfl, hbl', hc', hok'⟩ := (hB.below hb).look hlt'
      have HV := Lib.hid (rowNums_at HE.out hlt hlt')
      go_wp2
      go_quiet ((go_at_call 56; exact eqIntS_drawn _ _ _ _ _ _ rs[k].xs ss[k].xs wr _ (hok.1.below (below_draws (Below.refl _ _) _)) (hok'.1.below (below_draws (Below.refl _ _) _)) hok.2.1 hok'.2.1 HV.out hok.2.2))
      go_wp2
      go_roundw
      case rel => exact ⟨k + 1, by omega, by go_num, below_draws hb _⟩
      case measure => simp [intOf]; omega
    · go_wp2
      go_ret
      exact ⟨rfl, hb⟩
end Go.Proofs.Ytlpeimlbpiofkaa

namespace Go.Proofs.Ytlpeimlbpiofkaa
open Go.RowKit

/-- The same place with other numbers. -/
def RowV.put (r : RowV) (ys : List Int) : RowV := ⟨r.A, r.n, r.c, ys⟩
/-- Rows of the call's own, each in a range of blocks that no other one meets. -/
def FreeRows (w : World) (ps : List (Nat × Nat)) (rs : List RowV) : Prop :=
  ps.length = rs.length ∧ (∀ (k : Nat) r p, rs[k]? = some r → ps[k]? = some p → Fresh w p.1 p.2 3 r.A (nums r.xs) ∧ r.xs.length = r.n ∧ r.n ≤ 1048576) ∧
    ∀ (i j : Nat) p p', i ≠ j → ps[i]? = some p → ps[j]? = some p' → p.2 ≤ p'.1 ∨ p'.2 ≤ p.1
/-- A list of lists of the call's own, all of it in blocks from lo on and before hi. -/
def FreeGrid (w : World) (lo hi : Nat) (A : Option Addr) (rs : List RowV) : Prop :=
  ∃ ps, FreeRows w ps rs ∧ (∀ p ∈ ps, lo ≤ p.1 ∧ p.2 ≤ hi) ∧ (rs = [] ∨ ∃ b o, A = some ⟨b, o, none⟩ ∧ b < w.heap.size ∧ lo ≤ b ∧ b < hi ∧ (∀ p ∈ ps, b < p.1 ∨ p.2 ≤ b) ∧ ∀ j u, (rowVals rs)[j]? = some u → w.cell? ⟨b, o + j, none⟩ = some u)
section
variable {w w' : World} {lo hi lo' hi' : Nat} {A : Option Addr} {rs : List RowV} {ps : List (Nat × Nat)}
theorem FreeRows.below (h : FreeRows w ps rs) (hb : Below w.heap.size w w') : FreeRows w' ps rs :=
  ⟨h.1, fun k r p hr hp => ⟨(h.2.1 k r p hr hp).1.below hb, (h.2.1 k r p hr hp).2⟩, h.2.2⟩
theorem FreeGrid.below (h : FreeGrid w lo hi A rs) (hb : Below w.heap.size w w') : FreeGrid w' lo hi A rs := by
  obtain ⟨ps, h1, h2, h3⟩ := h
  refine ⟨ps, h1.below hb, h2, ?_⟩
  rcases h3 with h3 | ⟨b, o, hA, hl, g1, g2, hd, hc⟩
  · exact .inl h3
  · exact .inr ⟨b, o, hA, Nat.lt_of_lt_of_le hl hb.size, g1, g2, hd, fun j u hu => (hb.cell (p := ⟨b, o + j, none⟩) hl).trans (hc j u hu)⟩
theorem FreeGrid.alloc (h : FreeGrid w lo hi A rs) (o : Obj) : FreeGrid (w.alloc o) lo hi A rs := h.below (below1 w o)
theorem FreeGrid.drew (h : FreeGrid w lo hi A rs) : FreeGrid w.drew lo hi A rs := h.below ⟨rfl, rfl, rfl, Nat.le_refl _, fun _ _ => rfl⟩
theorem FreeGrid.more (h : FreeGrid w lo hi A rs) (h1 : lo' ≤ lo) (h2 : hi ≤ hi') : FreeGrid w lo' hi' A rs := by
  obtain ⟨ps, g1, g2, g3⟩ := h
  refine ⟨ps, g1, fun p hp => ⟨Nat.le_trans h1 (g2 p hp).1, Nat.le_trans (g2 p hp).2 h2⟩, ?_⟩
  rcases g3 with g3 | ⟨b, o, hA, hl, k1, k2, hd, hc⟩
  · exact .inl g3
  · exact .inr ⟨b, o, hA, hl, Nat.le_trans h1 k1, Nat.lt_of_lt_of_le k2 h2, hd, hc⟩
theorem FreeGrid.grid (h : FreeGrid w lo hi A rs) : Grid w A rs := by
  obtain ⟨ps, g1, g2, g3⟩ := h
  refine ⟨?_, fun r hr => ?_⟩
  · rcases g3 with rfl | ⟨b, o, hA, hl, -, -, -, hc⟩
    · exact .inl rfl
    · exact .inr ⟨b, o, hA, hl, hc⟩
  · obtain ⟨k, hk, rfl⟩ := List.getElem_of_mem hr
    obtain ⟨a1, a2, a3⟩ := g1.2.1 k rs[k] (ps[k]'(by rw [g1.1]; exact hk)) (List.getElem?_eq_getElem hk) (List.getElem?_eq_getElem (by rw [g1.1]; exact hk))
    exact ⟨a1.holds, a2, by omega⟩
theorem Span.wider (h : Span lo' hi' w w') (h1 : lo ≤ lo') (h2 : hi' ≤ hi) : Span lo hi w w' := ⟨h.os, h.tape, h.output, h.size, fun k hk hd => h.block k hk (by omega)⟩
theorem Span.cell (h : Span lo hi w w') {p : Addr} (hl : p.block < w.heap.size) (hg : p.block < lo ∨ hi ≤ p.block) : w'.cell? p = w.cell? p := by
  unfold World.cell?
  rw [h.block p.block hl hg]
theorem Span.freeRows (h : Span lo hi w w') (hf : FreeRows w ps rs) (hd : ∀ p ∈ ps, p.2 ≤ lo ∨ hi ≤ p.1) : FreeRows w' ps rs :=
  ⟨hf.1, fun k r p hr hp => ⟨h.fresh (hf.2.1 k r p hr hp).1 (hd p (List.mem_of_getElem? hp)), (hf.2.1 k r p hr hp).2⟩, hf.2.2⟩
theorem Span.freeGrid (h : Span lo hi w w') (hf : FreeGrid w lo' hi' A rs) (hd : hi' ≤ lo ∨ hi ≤ lo') : FreeGrid w' lo' hi' A rs := by
  obtain ⟨ps, g1, g2, g3⟩ := hf
  refine ⟨ps, h.freeRows g1 (fun p hp => by have := g2 p hp; omega), g2, ?_⟩
  rcases g3 with g3 | ⟨b, o, hA, hl, k1, k2, hdd, hc⟩
  · exact .inl g3
  · exact .inr ⟨b, o, hA, Nat.lt_of_lt_of_le hl h.size, k1, k2, hdd, fun j u hu => (h.cell (p := ⟨b, o + j, none⟩) hl (by show b < lo ∨ hi ≤ b; omega)).trans (hc j u hu)⟩
/-- Behind a row that has turned: the others stand as they were. -/
theorem FreeRows.turn (h : FreeRows w ps rs) {k : Nat} {r : RowV} {p : Nat × Nat} (hr : rs[k]? = some r) (hp : ps[k]? = some p) (hs : Span p.1 p.2 w w') {ys : List Int} (hf : Fresh w' p.1 p.2 3 r.A (nums ys)) (hy : ys.length = r.n) : FreeRows w' ps (rs.set k (r.put ys)) := by
  refine ⟨by simp [h.1], fun i r' p' hi hp' => ?_, h.2.2⟩
  rw [List.getElem?_set] at hi
  by_cases he : k = i
  · subst he
    obtain rfl : p = p' := by rw [hp] at hp'; exact Option.some.inj hp'
    rw [if_pos rfl] at hi
    split at hi
    · obtain rfl := Option.some.inj hi
      exact ⟨hf, hy, (h.2.1 k r p hr hp).2.2⟩
    · cases hi
  · rw [if_neg he] at hi
    exact ⟨hs.fresh (h.2.1 i r' p' hi hp').1 (by have := h.2.2 i k p' p (fun e => he e.symm) hp' hp; omega), (h.2.1 i r' p' hi hp').2⟩
theorem FreeGrid.turn (h : FreeGrid w lo hi A rs) {k : Nat} (hk : k < rs.length) : ∃ a b, lo ≤ a ∧ b ≤ hi ∧ Fresh w a b 3 rs[k].A (nums rs[k].xs) ∧ rs[k].xs.length = rs[k].n ∧ rs[k].n ≤ 1048576 ∧
    ∀ w' ys, Span a b w w' → Fresh w' a b 3 rs[k].A (nums ys) → ys.length = rs[k].n → FreeGrid w' lo hi A (rs.set k (rs[k].put ys)) := by
  obtain ⟨ps, g1, g2, g3⟩ := h
  have hk' : k < ps.length := by rw [g1.1]; exact hk
  have e1 : rs[k]? = some rs[k] := List.getElem?_eq_getElem hk
  have e2 : ps[k]? = some ps[k] := List.getElem?_eq_getElem hk'
  have hb := g2 _ (List.getElem_mem hk')
  obtain ⟨f1, f2, f3⟩ := g1.2.1 k _ _ e1 e2
  refine ⟨ps[k].1, ps[k].2, hb.1, hb.2, f1, f2, f3, fun w' ys hs hf hy => ⟨ps, g1.turn e1 e2 hs hf hy, g2, ?_⟩⟩
  rcases g3 with g3 | ⟨b, o, hA, hl, k1, k2, hdd, hc⟩
  · subst g3; simp at hk
  · refine .inr ⟨b, o, hA, Nat.lt_of_lt_of_le hl hs.size, k1, k2, hdd, fun j u hu => (hs.cell (p := ⟨b, o + j, none⟩) hl (by have := hdd _ (List.getElem_mem hk'); show b < ps[k].1 ∨ ps[k].2 ≤ b; omega)).trans (hc j u ?_)⟩
    rw [← hu]
    simp only [rowVals, List.getElem?_map, List.getElem?_set]
    by_cases he : k = j
    · subst he
      rw [if_pos rfl, if_pos hk, e1]
      rfl
    · rw [if_neg he]
end
/-- The ranges of lists that lie one behind the other. -/
theorem OwnRows.free {w : World} : ∀ {rs : List RowV} {lo hi : Nat}, OwnRows w lo hi rs → ∃ ps, FreeRows w ps rs ∧ ∀ p ∈ ps, lo ≤ p.1 ∧ p.2 ≤ hi
  | [], _, _, _ => ⟨[], ⟨rfl, fun k r p hr => by simp at hr, fun i j p p' _ hi => by simp at hi⟩, fun p hp => by cases hp⟩
  | r :: rs, lo, hi, ⟨mid, h1, hf, hl, hn, h2⟩ => by
    obtain ⟨ps, g, hg⟩ := h2.free
    have hle := h2.le
    refine ⟨(lo, mid) :: ps, ⟨by simp [g.1], fun k r' p hr hp => ?_, fun i j p p' hij hi hj => ?_⟩, fun p hp => ?_⟩
    · cases k with
      | zero => simp only [List.getElem?_cons_zero, Option.some.injEq] at hr hp; subst hr hp; exact ⟨hf, hl, hn⟩
      | succ k => simp only [List.getElem?_cons_succ] at hr hp; exact g.2.1 k r' p hr hp
    · cases i with
      | zero =>
        cases j with
        | zero => exact absurd rfl hij
        | succ j =>
          simp only [List.getElem?_cons_zero, List.getElem?_cons_succ, Option.some.injEq] at hi hj
          subst hi
          exact .inl (hg p' (List.mem_of_getElem? hj)).1
      | succ i =>
        cases j with
        | zero =>
          simp only [List.getElem?_cons_zero, List.getElem?_cons_succ, Option.some.injEq] at hi hj
          subst hj
          exact .inr (hg p (List.mem_of_getElem? hi)).1
        | succ j =>
          simp only [List.getElem?_cons_succ] at hi hj
          exact g.2.2 i j p p' (by omega) hi hj
    · rcases List.mem_cons.1 hp with rfl | hp
      · exact ⟨Nat.le_refl _, hle⟩
      · exact ⟨Nat.le_trans h1 (hg p hp).1, (hg p hp).2⟩
theorem OwnGrid.free {w : World} {g hi : Nat} {rs : List RowV} (h : OwnGrid w g hi rs) : FreeGrid w g hi (some ⟨g, 0, none⟩) rs := by
  obtain ⟨ps, h1, h2⟩ := h.2.free
  refine ⟨ps, h1, fun p hp => ⟨by have := (h2 p hp).1; omega, (h2 p hp).2⟩, .inr ⟨g, 0, rfl, h.1.lt, Nat.le_refl _, h.2.le, fun p hp => .inl (h2 p hp).1, fun j u hu => ?_⟩⟩
  rw [Nat.zero_add, h.1.cell j]
  simpa using hu

theorem part_sum {rs : List RowV} : part rs rs.length = (rs.map RowV.n).sum := by simp [part]
theorem part_nums {w : World} {A B : Option Addr} {rs ss : List RowV} (hA : Grid w A rs) {w' : World} (hB : Grid w' B ss) (h : rowNums rs = rowNums ss) : part rs rs.length = part ss ss.length := by
  rw [part_sum, part_sum]
  have e : ∀ {u : World} {C : Option Addr} {ts : List RowV}, Grid u C ts → ts.map RowV.n = (rowNums ts).map List.length := by
    intro u C ts hC
    rw [rowNums, List.map_map]
    exact List.map_congr_left fun r hr => (hC.2 r hr).2.1.symm
  rw [e hA, e hB, h]
theorem part_total (rs : List RowV) : part rs rs.length ≤ total rs := by unfold total; omega

/-- The first k lists overwritten by a count from q on. -/
def markTo (q : Int) (rs : List RowV) (k : Nat) : List RowV := (List.range rs.length).map fun j => if j < k then (rs.getD j ⟨none, 0, 0, []⟩).put (marksI (q + part rs j) (rs.getD j ⟨none, 0, 0, []⟩).n) else rs.getD j ⟨none, 0, 0, []⟩
theorem markTo_len (q : Int) (rs : List RowV) (k : Nat) : (markTo q rs k).length = rs.length := by simp [markTo]
theorem markTo_zero (q : Int) (rs : List RowV) : markTo q rs 0 = rs := by
  apply List.ext_getElem
  · simp [markTo]
  · intro i h1 h2
    simp [markTo, h2]
theorem markTo_at (q : Int) (rs : List RowV) (k i : Nat) (h : i < (markTo q rs k).length) : (markTo q rs k)[i] = if i < k then (rs[i]'(by rw [markTo_len] at h; exact h)).put (marksI (q + part rs i) (rs[i]'(by rw [markTo_len] at h; exact h)).n) else rs[i]'(by rw [markTo_len] at h; exact h) := by
  have h' : i < rs.length := by rw [markTo_len] at h; exact h
  simp [markTo, h']
theorem markTo_here (q : Int) (rs : List RowV) (k : Nat) (h : k < (markTo q rs k).length) : (markTo q rs k)[k] = rs[k]'(by rw [markTo_len] at h; exact h) := by
  rw [markTo_at, if_neg (by omega)]
theorem markTo_next (q : Int) (rs : List RowV) {k : Nat} (h : k < rs.length) : (markTo q rs k).set k (rs[k].put (marksI (q + part rs k) rs[k].n)) = markTo q rs (k + 1) := by
  apply List.ext_getElem
  · simp [markTo_len]
  · intro i h1 h2
    rw [List.getElem_set]
    by_cases he : k = i
    · subst he
      rw [if_pos rfl, markTo_at, if_pos (by omega)]
    · rw [if_neg he, markTo_at, markTo_at]
      by_cases hi : i < k
      · rw [if_pos hi, if_pos (by omega)]
      · rw [if_neg hi, if_neg (by omega)]

set_option maxHeartbeats 800000 in
theorem markIntSS_any (A : Option Addr) (n c lo hi : Nat) (rs : List RowV) (q : Int) (w : World) (hf : FreeGrid w lo hi A rs) (hx : rs.length = n) (h0 : 0 ≤ q) (h1 : q ≤ 2305843009213693952) (hn : n ≤ 1048576) (hp : part rs rs.length ≤ 1048576) :
    Calls Try.prog 24 #[.slice A n c, .int .i64 q] w fun e w' => e = .returned (.int .i64 (q + (part rs rs.length : Nat))) ∧ Span lo hi w w' ∧ FreeGrid w' lo hi A (markTo q rs rs.length) := by
  have HX := Lib.hid hx
  have HM : Hid (FreeGrid w lo hi A (markTo q rs 0)) := by show FreeGrid _ _ _ _ _; rw [markTo_zero]; exact hf
  clear hx hf
  go_enter Try.func24, Try.ntmps24
  go_wp2
  go_loopw [1, 5] (fun v i wr => ∃ k : Nat, k ≤ n ∧ i = .int .i64 k ∧ v = .int .i64 (q + part rs k) ∧ FreeGrid wr lo hi A (markTo q rs k) ∧ Span lo hi w wr) (fun _ i _ => n - (intOf i).toNat)
  case atStart => exact ⟨0, Nat.zero_le _, rfl, by simp [part_zero], HM.out, Span.refl _ _ _⟩
  case round =>
    obtain ⟨k, hk, rfl, rfl, hm, hs⟩ := hrel
    clear HM
    by_cases hlt : k < n
    · have hkr : k < rs.length := by have := HX.out; omega
      have hkm : k < (markTo q rs k).length := by rw [markTo_len]; exact hkr
      obtain ⟨b, o, rfl, hb, hc, hok⟩ := hm.grid.look hkm
      obtain ⟨lo1, hi1, l1, l2, hf, hl, hs1, hturn⟩ := hm.turn hkm
      have hpl := part_le (rs := rs) (Nat.le_refl _) (j := k) (by omega)
      have hpn := part_next hkr
      have HPN := Lib.hid hpn
      have HT := Lib.hid hturn
      have HN := Lib.hid (markTo_next q rs hkr)
      have HF := Lib.hid hf
      have HL := Lib.hid hl
      have HE := Lib.hid (markTo_here q rs k hkm)
      rw [HE.out] at hc
      rw [HE.out] at hs1
      have HS := Lib.hid hs
      clear hm hf hl hturn hok hpn hs
      have hq0 : (0 : Int) ≤ q + part rs k := by omega
      have hq1 : q + (part rs k : Int) ≤ 4611686018427387904 := by omega
      go_wp2_with fail
      refine (markIntS_any rs[k].A rs[k].n _ lo1 hi1 (nums rs[k].xs) _ _ (by rw [← HE.out]; exact HF.out) (by rw [nums_len, ← HE.out]; exact HL.out) hq0 hq1 hs1).mono ?_
      rintro e w1 ⟨rfl, hs2, hf2⟩
      have hsz : Span lo hi w w1 := HS.out.trans (hs2.wider l1 l2)
      have HG : Hid (FreeGrid w1 lo hi (some ⟨b, o, none⟩) (markTo q rs (k + 1))) := by
        show FreeGrid _ _ _ _ _
        rw [← HN.out]
        have h := HT.out w1 (marksI (q + part rs k) rs[k].n) hs2 (by rw [HE.out]; exact hf2) (by rw [marksI_len, HE.out])
        rw [HE.out] at h
        exact h
      clear hs2 hf2 HT
      go_wp2
      go_roundw
      case rel => exact ⟨k + 1, by omega, by go_num, by rw [HPN.out]; first | exact congrArg _ (by omega) | (simp; omega), HG.out, hsz⟩
      case measure => simp [intOf]; omega
    · have hkn : k = rs.length := by have := HX.out; omega
      subst hkn
      go_wp2
      go_ret
      exact ⟨rfl, hs, hm⟩

set_option maxHeartbeats 800000 in
theorem heldIntSS_any (A : Option Addr) (n c : Nat) (rs : List RowV) (q : Int) (w : World) (hA : Grid w A (markTo q rs rs.length)) (hx : rs.length = n) (h0 : 0 ≤ q) (h1 : q ≤ 2305843009213693952) (hn : n ≤ 1048576) (hp : part rs rs.length ≤ 1048576) :
    Calls Try.prog 25 #[.slice A n c, .int .i64 q] w fun e w' => e = .returned (.int .i64 (q + (part rs rs.length : Nat))) ∧ Below w.heap.size w w' := by
  have HX := Lib.hid hx
  clear hx
  go_enter Try.func25, Try.ntmps25
  go_wp2
  go_loop [1, 5] (fun v i => ∃ k : Nat, k ≤ n ∧ i = .int .i64 k ∧ v = .int .i64 (q + part rs k)) (fun _ i => n - (intOf i).toNat)
  case atStart => exact ⟨0, Nat.zero_le _, rfl, by simp [part_zero]⟩
  case round =>
    obtain ⟨k, hk, rfl, rfl⟩ := hrel
    by_cases hlt : k < n
    · have hkr : k < rs.length := by have := HX.out; omega
      have hkm : k < (markTo q rs rs.length).length := by rw [markTo_len]; exact hkr
      obtain ⟨b, o, rfl, hb, hc, hok⟩ := hA.look hkm
      have he : (markTo q rs rs.length)[k] = (rs[k].put (marksI (q + part rs k) rs[k].n)) := by rw [markTo_at, if_pos hkr]
      rw [he] at hc hok
      have hpl := part_le (rs := rs) (Nat.le_refl _) (j := k + 1) (by omega)
      have hpn := part_next hkr
      have hs1 : rs[k].n ≤ 1048576 := by omega
      have HPN := Lib.hid hpn
      have HOK := Lib.hid hok.1
      have hq0 : (0 : Int) ≤ q + part rs k := by omega
      have hq1 : q + (part rs k : Int) ≤ 4611686018427387904 := by omega
      have hq2 : (0 : Int) ≤ q + part rs k + rs[k].n := by omega
      clear he hok hpn
      simp only [RowV.put] at hc
      go_wp2_with fail
      refine (heldIntS_any rs[k].A rs[k].n _ _ _ HOK.out hq0 hq1 hs1).mono ?_
      rintro e w1 ⟨rfl, rfl⟩
      go_wp2
      go_round
      case rel => exact ⟨k + 1, by omega, by go_num, by rw [HPN.out]; first | exact congrArg _ (by omega) | (simp; omega)⟩
      case measure => simp [intOf]; omega
    · have hkn : k = rs.length := by have := HX.out; omega
      subst hkn
      go_wp2
      go_ret
      exact ⟨rfl, Below.refl _ _⟩
end Go.Proofs.Ytlpeimlbpiofkaa

namespace Go.Proofs.Ytlpeimlbpiofkaa
open Go.RowKit

theorem info_byte : (Try.prog.info? 5).map (fun i => (i.zero, i.size, i.bytes)) = some (some (.int .u8 0), 1, 1) := by kernel_rfl

theorem own_slice {w : World} {base : Nat} {e : TypeId} {size : Nat} {v : Value} {n : Nat} {xs : List Value} (h : w.ownsRow base e size v (n + 1) xs) : ∃ g cap, v = .slice (some ⟨g, 0, none⟩) (n + 1) cap := by
  obtain ⟨-, ⟨-, h⟩ | ⟨g, cap, -, hv, -⟩⟩ := h
  · omega
  · exact ⟨g, cap, hv⟩
theorem cells_fresh (w : World) (ty : TypeId) (cs : Array Value) : ∀ j u, cs.toList[j]? = some u → (w.alloc (.cells cs ty)).cell? ((⟨w.heap.size, 0, none⟩ : Addr).add j) = some u := fun j u hu => by
  rw [show (⟨w.heap.size, 0, none⟩ : Addr).add j = ⟨w.heap.size, j, none⟩ from by unfold Addr.add; split <;> simp_all, (Whole.fresh w ty cs).cell j]
  simpa using hu

end Go.Proofs.Ytlpeimlbpiofkaa

namespace Go.Proofs.Ytlpeimlbpiofkaa
open Go.RowKit

/-- What a call hands back that makes a list to which more can be appended. -/
def OwnPost (xs : List Int) (w : World) (e : Ending) (w' : World) : Prop :=
  ∃ (A : Option Addr) (c : Nat), e = .returned (.slice A xs.length c) ∧ w'.ownsRow w.heap.size 3 1 (.slice A xs.length c) xs.length (nums xs) ∧ Below w.heap.size w w'
theorem ints_one (xs : List Int) : ∀ u ∈ nums xs, u.oneCell' = true := by
  intro v hv
  simp only [nums, List.mem_map] at hv
  obtain ⟨x, -, rfl⟩ := hv
  rfl
theorem own_some {w : World} {base : Nat} {e : TypeId} {A : Option Addr} {n c : Nat} {xs : List Value} (h : w.ownsRow base e 1 (.slice A n c) n xs) : (A = none ∧ n = 0 ∧ c = 0) ∨ ∃ g, A = some ⟨g, 0, none⟩ ∧ n ≤ c := by
  obtain ⟨-, ⟨hv, hn⟩ | ⟨g, cap, cur, hv, -, -, h1, -⟩⟩ := h
  · obtain ⟨rfl, -, rfl⟩ : A = none ∧ n = 0 ∧ c = 0 := by simpa using hv
    exact .inl ⟨rfl, hn, rfl⟩
  · obtain ⟨rfl, -, rfl⟩ : A = some ⟨g, 0, none⟩ ∧ n = n ∧ c = cap := by simpa using hv
    exact .inr ⟨g, rfl, h1⟩

theorem own_shape {w : World} {base : Nat} {e : TypeId} {v : Value} {n : Nat} {xs : List Value} (h : w.ownsRow base e 1 v n xs) : ∃ (A : Option Addr) (c : Nat), v = .slice A n c := by
  obtain ⟨-, ⟨rfl, rfl⟩ | ⟨g, cap, cur, hv, -⟩⟩ := h
  · exact ⟨none, 0, rfl⟩
  · exact ⟨_, _, hv⟩

set_option maxHeartbeats 800000 in
set_option maxRecDepth 100000 in
theorem l1Own_any (A : Option Addr) (n c : Nat) (xs : List Int) (w : World) (hA : Holds w A (nums xs)) (hx : xs.length = n) (hn : n ≤ 1048576) (hc : A = none → c = 0) :
    Calls Try.prog 150 #[.slice A n c] w (OwnPost xs w) := by
  subst hx
  obtain ⟨i0, hi, hz0, hz1, hz2⟩ := info_parts info_int
  have HI := Lib.hid hi
  have HZ0 := Lib.hid hz0
  have HZ1 := Lib.hid hz1
  have HZ2 := Lib.hid hz2
  have HOWN := Lib.hid (World.ownsRow_made (base := w.heap.size) (e := 3) (size := 1) w #[] 0 (Nat.le_refl _) (by unfold maxLen; omega) rfl)
  have HB := Lib.hid (below1 w (.cells #[] 3))
  clear hi hz0 hz1 hz2
  cases A with
  | none =>
    have h0 : xs = [] := by
      rcases hA with h | ⟨b, o, h, -⟩
      · simpa [nums] using h
      · cases h
    subst h0
    obtain rfl := hc rfl
    go_enter Try.func150, Try.ntmps150
    go_wp2_with (at_builtin; refine wpList_append_own_none rfl (.tmp 3) (.tmp 4) 22 rfl w.heap.size 3 i0 1 Try.underlying22 HI.out _ 0 [] rfl HOWN.out rfl ?_)
    go_ret
    exact ⟨_, 0, rfl, HOWN.out, HB.out⟩
  | some ad =>
    have hnews : ∀ j u, (nums xs)[j]? = some u → (w.alloc (.cells #[] 3)).cell? (ad.add j) = some u := fun j u hu => by
      rcases hA with h | ⟨b, o, h, hb, hcell⟩
      · rw [h] at hu; simp at hu
      · obtain rfl : ad = ⟨b, o, none⟩ := by simpa using h
        rw [show (⟨b, o, none⟩ : Addr).add j = ⟨b, o + j, none⟩ from by unfold Addr.add; split <;> simp_all, World.cell?_alloc_lt _ _ _ hb]
        exact hcell j u hu
    have HNEWS := Lib.hid hnews
    have HLEN := Lib.hid (show (nums xs).length = xs.length * 1 by rw [nums_len, Nat.mul_one])
    have HONE := Lib.hid (ints_one xs)
    have HMAX := Lib.hid (show 0 + xs.length ≤ maxLen by unfold maxLen; omega)
    have HBYT := Lib.hid (show (0 + xs.length) * 8 ≤ 140737488355328 by omega)
    clear hnews hc
    go_enter Try.func150, Try.ntmps150
    go_wp2_with (at_builtin; refine wpList_append_own _ rfl (.tmp 3) (.tmp 4) 22 rfl w.heap.size 3 i0 (.int .i64 0) 1 8 Try.underlying22 HI.out HZ0.out HZ1.out HZ2.out rfl (by decide) _ 0 [] rfl HOWN.out ad xs.length c (nums xs) rfl HLEN.out HNEWS.out HONE.out HMAX.out HBYT.out (by simp) ?_; intro v' w1 hown1 hg1 _)
    go_ret
    simp only [Nat.zero_add, List.nil_append] at hown1
    have hbe := HB.out.grown hg1 (by simp) (fun k hk => Nat.le_of_eq (Option.some.inj (show some w.heap.size = some k from hk)))
    obtain ⟨A1, c1, rfl⟩ := own_shape hown1
    exact ⟨A1, c1, rfl, hown1, hbe⟩
end Go.Proofs.Ytlpeimlbpiofkaa

namespace Go.Proofs.Ytlpeimlbpiofkaa
open Go.RowKit

theorem Fresh.turn {w : World} {lo hi k : Nat} {ty : TypeId} {A : Option Addr} {xs : List Value} (hf : Fresh w lo hi ty A xs) (hk : k < xs.length) :
    ∃ g u, A = some ⟨g, 0, none⟩ ∧ lo ≤ g ∧ g < hi ∧ g < w.heap.size ∧ w.cell? ⟨g, k, none⟩ = some u ∧ w.frozen? ⟨g, k, none⟩ = false ∧ ∀ v, Fresh (w.setCell ⟨g, k, none⟩ v) lo hi ty A (xs.set k v) := by
  rcases hf with rfl | ⟨g, cs, hA, h1, h2, hw, h3, h4⟩
  · simp at hk
  · refine ⟨g, cs[k]'(by omega), hA, h1, h2, hw.lt, (hw.cell k).trans (by simp), hw.open_ k, fun v => .inr ⟨g, _, hA, h1, h2, hw.set_ k v, by simpa using h3, ?_⟩⟩
    rw [List.length_set, Array.toList_setIfInBounds, ← h4, List.take_set, List.length_take]
    congr 2
    simp only [Array.length_toList]
    omega

/-- What stands behind the model's copy of the state. -/
def CrossMid (m : Nat) (bs : List Bool) (t : Bool) (b o d : Nat) (w : World) (v : Value) (wx : World) : Prop :=
  ∃ (g c lo hi : Nat) (A : Option Addr), v = .pointer (some ⟨g, 0, none⟩) ∧ w.heap.size + 1 + 1 ≤ g ∧ w.heap.size + 1 + 1 ≤ lo ∧ (g < lo ∨ hi ≤ g) ∧ hi ≤ wx.heap.size ∧ Whole wx g 44 #[.slice A m c, .bool (!t)] ∧ Fresh wx lo hi 4 A (bits bs) ∧ Whole wx w.heap.size 44 #[.slice (some ⟨b, o, none⟩) m d, .bool t] ∧ Whole wx (w.heap.size + 1) 44 #[.slice none 0 0, .bool false] ∧ Below w.heap.size w wx

set_option maxHeartbeats 3200000 in
theorem paCross_any (b o m d : Nat) (D : Option Addr) (q z : Nat) (bs : List Bool) (l : List Int) (t : Bool) (w : World) (hB : ∀ j u, (bits bs)[j]? = some u → w.cell? ⟨b, o + j, none⟩ = some u) (hy : bs.length = m) (hm0 : 0 < m) (hm : m ≤ 1048576)
    (hD : Holds w D (nums l)) (hz : l.length = q) (hq : q ≤ 9223372036854775807) (hl : StepsTo l (m - 1) l.length) :
    Calls Try.prog 111 #[.agg #[.slice (some ⟨b, o, none⟩) m d, .bool t], .slice D q z] w (StateRes (flipped bs l) (!t) w) := by
  obtain ⟨i0, hi, hz0, hz1, hz2⟩ := info_parts info_bool
  have HI := Lib.hid hi
  have HZ0 := Lib.hid hz0
  have HZ1 := Lib.hid hz1
  have HZ2 := Lib.hid hz2
  have HB := Lib.hid hB
  have HY := Lib.hid hy
  have HL := Lib.hid hl
  have HZ := Lib.hid hz
  have hp := (Whole.fresh w 44 #[.slice (some ⟨b, o, none⟩) m d, .bool t]).alloc (.cells #[.slice none 0 0, .bool false] 44)
  obtain ⟨c0, c1, -, -⟩ := hp.two
  clear hi hz0 hz1 hz2 hB hy hl hz
  have hB1 : ∀ j u, (bits bs)[j]? = some u → World.cell? (World.drew (((w.alloc (.cells #[.slice (some ⟨b, o, none⟩) m d, .bool t] 44)).alloc (.cells #[.slice none 0 0, .bool false] 44)).alloc (.cells #[] 4))) ((⟨b, o, none⟩ : Addr).add j) = some u := fun j u hu => by
    rw [show (⟨b, o, none⟩ : Addr).add j = ⟨b, o + j, none⟩ from by unfold Addr.add; split <;> simp_all]
    have h := HB.out j u hu
    rw [← h]
    exact (below3 w _ _ _).cell (p := ⟨b, o + j, none⟩) (block_lt_of_cell h)
  have hB2 : ∀ j u, (bits bs)[j]? = some u → World.cell? (World.drew ((((w.alloc (.cells #[.slice (some ⟨b, o, none⟩) m d, .bool t] 44)).alloc (.cells #[.slice none 0 0, .bool false] 44)).alloc (.cells #[] 4)).alloc (.cells #[.slice none 0 0, .bool false] 44))) ((⟨b, o, none⟩ : Addr).add j) = some u := fun j u hu => by
    rw [show (⟨b, o, none⟩ : Addr).add j = ⟨b, o + j, none⟩ from by unfold Addr.add; split <;> simp_all]
    have h := HB.out j u hu
    rw [← h]
    exact (below4 w _ _ _ _).cell (p := ⟨b, o + j, none⟩) (block_lt_of_cell h)
  have hB3 : ∀ j u, (bits bs)[j]? = some u → World.cell? (World.drew ((((w.alloc (.cells #[.slice (some ⟨b, o, none⟩) m d, .bool t] 44)).alloc (.cells #[.slice none 0 0, .bool false] 44)).alloc (.cells #[.slice none 0 0, .bool false] 44)).alloc (.cells #[] 4))) ((⟨b, o, none⟩ : Addr).add j) = some u := fun j u hu => by
    rw [show (⟨b, o, none⟩ : Addr).add j = ⟨b, o + j, none⟩ from by unfold Addr.add; split <;> simp_all]
    have h := HB.out j u hu
    rw [← h]
    exact (below4 w _ _ _ _).cell (p := ⟨b, o + j, none⟩) (block_lt_of_cell h)
  have HN3 := Lib.hid hB3
  have HN1 := Lib.hid hB1
  have HN2 := Lib.hid hB2
  have HLEN := Lib.hid (show (bits bs).length = m * 1 by rw [bits_len, HY.out, Nat.mul_one])
  have HONE := Lib.hid (bits_one bs)
  have HP1 := Lib.hid (hp.alloc (.cells #[] 4)).drew
  have HP2 := Lib.hid ((hp.alloc (.cells #[] 4)).alloc (.cells #[.slice none 0 0, .bool false] 44)).drew
  have HP3 := Lib.hid ((hp.alloc (.cells #[.slice none 0 0, .bool false] 44)).alloc (.cells #[] 4)).drew
  have hr := Whole.fresh (w.alloc (.cells #[.slice (some ⟨b, o, none⟩) m d, .bool t] 44)) 44 #[.slice none 0 0, .bool false]
  rw [World.size_alloc] at hr
  have HR1 := Lib.hid (hr.alloc (.cells #[] 4)).drew
  have HR2 := Lib.hid ((hr.alloc (.cells #[] 4)).alloc (.cells #[.slice none 0 0, .bool false] 44)).drew
  have HR3 := Lib.hid ((hr.alloc (.cells #[.slice none 0 0, .bool false] 44)).alloc (.cells #[] 4)).drew
  have hq3 := (Whole.fresh ((w.alloc (.cells #[.slice (some ⟨b, o, none⟩) m d, .bool t] 44)).alloc (.cells #[.slice none 0 0, .bool false] 44)) 44 #[.slice none 0 0, .bool false]).alloc (.cells #[] 4)
  simp only [World.size_alloc] at hq3
  have HQ3 := Lib.hid hq3.drew
  have HB3 := Lib.hid ((below4 w (.cells #[.slice (some ⟨b, o, none⟩) m d, .bool t] 44) (.cells #[.slice none 0 0, .bool false] 44) (.cells #[.slice none 0 0, .bool false] 44) (.cells #[] 4)).drew)
  have hq2 := Whole.fresh (((w.alloc (.cells #[.slice (some ⟨b, o, none⟩) m d, .bool t] 44)).alloc (.cells #[.slice none 0 0, .bool false] 44)).alloc (.cells #[] 4)) 44 #[.slice none 0 0, .bool false]
  simp only [World.size_alloc] at hq2
  have HQ2 := Lib.hid hq2.drew
  have HB1 := Lib.hid ((below3 w (.cells #[.slice (some ⟨b, o, none⟩) m d, .bool t] 44) (.cells #[.slice none 0 0, .bool false] 44) (.cells #[] 4)).drew)
  have HB2 := Lib.hid ((below4 w (.cells #[.slice (some ⟨b, o, none⟩) m d, .bool t] 44) (.cells #[.slice none 0 0, .bool false] 44) (.cells #[] 4) (.cells #[.slice none 0 0, .bool false] 44)).drew)
  clear hB1 hB2 hB3 hp hr hq2 hq3
  go_enter Try.func111, Try.ntmps111
  go_upto_region 1 with fail
  go_cut [5] (fun s5 wx => CrossMid m bs t b o d w s5 wx)
  case first =>
    go_region_law (first | (refine step_append_grows rfl (.tmp 8) (.tmp 10) 38 rfl 4 i0 (.bool false) 1 1 Try.underlying38 HI.out HZ0.out HZ1.out HZ2.out rfl (by decide) (some ⟨w.heap.size + 1 + 1, 0, none⟩) 0 0 [] rfl (by intro h; cases h) rfl (by intro x hx j u hu; simp at hu) ⟨b, o, none⟩ m d (bits bs) rfl HLEN.out HN1.out HONE.out (by omega) (by unfold maxLen; omega) (by omega) ?_; intro v' w1 hown1 hg1; simp only [Nat.zero_add, List.nil_append] at hown1; obtain ⟨A, c, hv', hf⟩ := Fresh.of_own hown1 (Nat.le_refl _); subst hv'; have hp1 : Whole w1 w.heap.size 44 #[.slice (some ⟨b, o, none⟩) m d, .bool t] := (hg1.block _ HP1.out.lt (fun e => by cases e)).trans HP1.out; have hr1 : Whole w1 (w.heap.size + 1) 44 #[.slice none 0 0, .bool false] := (hg1.block _ HR1.out.lt (fun e => by cases e)).trans HR1.out; obtain ⟨k0, k1, -, -⟩ := hp1.two; have hbl := HB1.out.grown hg1 (by simp; omega) (fun k e => by cases e); obtain ⟨k2, k3, -, -⟩ := (hp1.alloc (.cells #[.slice none 0 0, .bool false] 44)).two; have tok1 : True := trivial; clear hown1) | (refine step_append_grows rfl (.tmp 8) (.tmp 10) 38 rfl 4 i0 (.bool false) 1 1 Try.underlying38 HI.out HZ0.out HZ1.out HZ2.out rfl (by decide) (some ⟨w.heap.size + 1 + 1, 0, none⟩) 0 0 [] rfl (by intro h; cases h) rfl (by intro x hx j u hu; simp at hu) ⟨b, o, none⟩ m d (bits bs) rfl HLEN.out HN2.out HONE.out (by omega) (by unfold maxLen; omega) (by omega) ?_; intro v' w1 hown1 hg1; simp only [Nat.zero_add, List.nil_append] at hown1; obtain ⟨A, c, hv', hf⟩ := Fresh.of_own hown1 (Nat.le_refl _); subst hv'; have hp1 : Whole w1 w.heap.size 44 #[.slice (some ⟨b, o, none⟩) m d, .bool t] := (hg1.block _ HP2.out.lt (fun e => by cases e)).trans HP2.out; have hr1 : Whole w1 (w.heap.size + 1) 44 #[.slice none 0 0, .bool false] := (hg1.block _ HR2.out.lt (fun e => by cases e)).trans HR2.out; obtain ⟨k0, k1, -, -⟩ := hp1.two; have hbl := HB2.out.grown hg1 (by simp; omega) (fun k e => by cases e); have hq1 : Whole w1 (w.heap.size + 1 + 1 + 1) 44 #[.slice none 0 0, .bool false] := (hg1.block _ HQ2.out.lt (fun e => by cases e)).trans HQ2.out; obtain ⟨k4, k5, k6, k7⟩ := hq1.two; have tok2 : True := trivial; clear hown1) | (refine step_append_grows rfl (.tmp 8) (.tmp 10) 38 rfl 4 i0 (.bool false) 1 1 Try.underlying38 HI.out HZ0.out HZ1.out HZ2.out rfl (by decide) (some ⟨w.heap.size + 1 + 1 + 1, 0, none⟩) 0 0 [] rfl (by intro h; cases h) rfl (by intro x hx j u hu; simp at hu) ⟨b, o, none⟩ m d (bits bs) rfl HLEN.out HN1.out HONE.out (by omega) (by unfold maxLen; omega) (by omega) ?_; intro v' w1 hown1 hg1; simp only [Nat.zero_add, List.nil_append] at hown1; obtain ⟨A, c, hv', hf⟩ := Fresh.of_own hown1 (Nat.le_refl _); subst hv'; have hp1 : Whole w1 w.heap.size 44 #[.slice (some ⟨b, o, none⟩) m d, .bool t] := (hg1.block _ HP1.out.lt (fun e => by cases e)).trans HP1.out; have hr1 : Whole w1 (w.heap.size + 1) 44 #[.slice none 0 0, .bool false] := (hg1.block _ HR1.out.lt (fun e => by cases e)).trans HR1.out; obtain ⟨k0, k1, -, -⟩ := hp1.two; have hbl := HB1.out.grown hg1 (by simp; omega) (fun k e => by cases e); obtain ⟨k2, k3, -, -⟩ := (hp1.alloc (.cells #[.slice none 0 0, .bool false] 44)).two; have tok1 : True := trivial; clear hown1) | (refine step_append_grows rfl (.tmp 8) (.tmp 10) 38 rfl 4 i0 (.bool false) 1 1 Try.underlying38 HI.out HZ0.out HZ1.out HZ2.out rfl (by decide) (some ⟨w.heap.size + 1 + 1 + 1, 0, none⟩) 0 0 [] rfl (by intro h; cases h) rfl (by intro x hx j u hu; simp at hu) ⟨b, o, none⟩ m d (bits bs) rfl HLEN.out HN3.out HONE.out (by omega) (by unfold maxLen; omega) (by omega) ?_; intro v' w1 hown1 hg1; simp only [Nat.zero_add, List.nil_append] at hown1; obtain ⟨A, c, hv', hf⟩ := Fresh.of_own hown1 (Nat.le_refl _); subst hv'; have hp1 : Whole w1 w.heap.size 44 #[.slice (some ⟨b, o, none⟩) m d, .bool t] := (hg1.block _ HP3.out.lt (fun e => by cases e)).trans HP3.out; have hr1 : Whole w1 (w.heap.size + 1) 44 #[.slice none 0 0, .bool false] := (hg1.block _ HR3.out.lt (fun e => by cases e)).trans HR3.out; obtain ⟨k0, k1, -, -⟩ := hp1.two; have hbl := HB3.out.grown hg1 (by simp; omega) (fun k e => by cases e); have hq1 : Whole w1 (w.heap.size + 1 + 1) 44 #[.slice none 0 0, .bool false] := (hg1.block _ HQ3.out.lt (fun e => by cases e)).trans HQ3.out; obtain ⟨k4, k5, k6, k7⟩ := hq1.two; have tok3 : True := trivial; clear hown1))
    all_goals (clear HN1 HN2 HN3 HP1 HP2 HP3 HR1 HR2 HR3 HQ2 HQ3 HB1 HB2 HB3 HLEN HONE HI HZ0 HZ1 HZ2 HB)
    all_goals (go_wp2_with fail; go_meet)
    all_goals (have hr1l := hr1.lt)
    all_goals (first | (have _t := tok1; exact ⟨w1.heap.size, c, _, w1.heap.size, A, rfl, by omega, by simp, .inr (Nat.le_refl _), by simp, Whole.fresh _ _ _, hf.alloc _, hp1.alloc _, hr1.alloc _, hbl.alloc hbl.size _⟩) | (have _t := tok2; exact ⟨w.heap.size + 1 + 1 + 1, c, _, w1.heap.size, A, rfl, by omega, by simp, .inl (by simp), by simp [World.setCell], (hq1.set_ 0 _).set_ 1 _, (hf.set_out (.inl (by simp))).set_out (.inl (by simp)), (hp1.off (by omega)).off (by omega), (hr1.off (by omega)).off (by omega), below_set (below_set hbl (by omega)) (by omega)⟩) | (have _t := tok3; exact ⟨w.heap.size + 1 + 1, c, _, w1.heap.size, A, rfl, by omega, by simp, .inl (by simp), by simp [World.setCell], (hq1.set_ 0 _).set_ 1 _, (hf.set_out (.inl (by simp))).set_out (.inl (by simp)), (hp1.off (by omega)).off (by omega), (hr1.off (by omega)).off (by omega), below_set (below_set hbl (by omega)) (by omega)⟩))
  case rest =>
    clear HN1 HN2 HN3 HP1 HP2 HP3 HR1 HR2 HR3 HQ2 HQ3 HB1 HB2 HB3 HLEN HONE HI HZ0 HZ1 HZ2 c0 c1
    obtain ⟨g, c, lo, hi, A, rfl, hg, hlo, hd, hhi, gw, hf, gp, gr, hb⟩ := hcut
    go_wp2
    have hF0 : Fresh wc lo hi 4 A (bits (flipped bs (l.take 0))) := by rw [List.take_zero, flipped_nil]; exact hf
    go_loopw [18] (fun i wr => ∃ k : Nat, k ≤ q ∧ i = .int .i64 k ∧ Whole wr g 44 #[.slice A m c, .bool (!t)] ∧ Fresh wr lo hi 4 A (bits (flipped bs (l.take k))) ∧ Whole wr w.heap.size 44 #[.slice (some ⟨b, o, none⟩) m d, .bool t] ∧ Whole wr (w.heap.size + 1) 44 #[.slice none 0 0, .bool false] ∧ Below w.heap.size w wr ∧ hi ≤ wr.heap.size) (fun i _ => q - (intOf i).toNat)
    case atStart => exact ⟨0, Nat.zero_le _, rfl, gw, hF0, gp, gr, hb, hhi⟩
    case round =>
      clear gw hf gp gr hb hF0 hhi
      obtain ⟨k, hk, rfl, gw, hf, gp, gr, hb, hhi⟩ := hrel
      by_cases hlt : k < q
      · have hkl : k < l.length := by have := HZ.out; omega
        obtain ⟨b1, o1, rfl, hbl, hc⟩ := (hD.below hb).look (k := k) (by simpa [nums] using hkl)
        simp only [nums, List.getElem_map] at hc
        have hst := HL.out k hkl
        have hlow := hst.1
        have hhigh := hst.2.1
        rw [getD_at l hkl] at hlow hhigh
        have hix : (l[k]).toNat < bs.length := by have := HY.out; omega
        have hup : l[k] < m := by have := HY.out; omega
        obtain ⟨g1, u1, rfl, hg1, hg1', hg1l, hcell, hfr, hturn⟩ := hf.turn (k := (l[k]).toNat) (by rw [bits_len, flipped_len]; exact hix)
        have hblk := block_lt_of_cell (HB.out (l[k]).toNat _ (List.getElem?_eq_getElem (by rw [bits_len]; exact hix)))
        have hsrc : wr.cell? ⟨b, o + (l[k]).toNat, none⟩ = some (.bool (bs.getD (l[k]).toNat false)) := by
          rw [hb.cell (p := ⟨b, o + (l[k]).toNat, none⟩) hblk]
          refine (HB.out (l[k]).toNat _ ?_)
          simp [bits, hix]
        have hgd : bs.getD (l[k]).toNat false = bs[(l[k]).toNat] := by simp [hix]
        have hnx := flipped_next bs hkl hlow
        rw [hgd] at hsrc hnx
        have HT := Lib.hid (hturn (.bool (!(bs[(l[k]).toNat]))))
        have HNX := Lib.hid hnx
        obtain ⟨a0, a1, -, -⟩ := gw.two
        obtain ⟨p0, p1, -, -⟩ := gp.two
        have GW := Lib.hid gw
        have GP := Lib.hid gp
        have GR := Lib.hid gr
        clear hst hhigh hf hturn gw gp gr hgd hnx
        go_wp2
        go_region
        all_goals
          go_wp2
          go_roundw
          case rel => exact ⟨k + 1, by omega, by go_num, (GW.out.off (by omega)).drew, by rw [← HNX.out]; have h := HT.out.drew; simpa [bits, List.map_set] using h, (GP.out.off (by omega)).drew, (GR.out.off (by omega)).drew, (below_set hb (by omega)).drew, by simpa [World.setCell] using hhi⟩
          case measure => simp [intOf]; omega
      · have hkq : l.take k = l := List.take_of_length_le (by have := HZ.out; omega)
        rw [hkq] at hf
        have HF := Lib.hid ((hf.set_out (b := w.heap.size + 1) (o := 0) (u := .slice A m c) (.inl (by omega))).set_out (b := w.heap.size + 1) (o := 1) (u := .bool (!t)) (.inl (by omega)))
        have HS := Lib.hid (below_set (o := 1) (u := .bool (!t)) (below_set (o := 0) (u := .slice A m c) hb (show w.heap.size ≤ w.heap.size + 1 by omega)) (show w.heap.size ≤ w.heap.size + 1 by omega))
        obtain ⟨a0, a1, -, -⟩ := gw.two
        obtain ⟨r0, r1, f0, f1⟩ := gr.two
        have hrl := gr.lt
        clear hkq hf
        go_wp2
        refine bodyPost_ret (v := .agg #[.slice A m c, .bool (!t)]) (by simp [results, Try.results111, go_sem, r0, r1]) rfl ⟨A, c, by rw [flipped_len, HY.out], ?_, HS.out⟩
        exact HF.out.more (by omega) (by simpa [World.setCell] using hhi)
end Go.Proofs.Ytlpeimlbpiofkaa

namespace Go.Proofs.Ytlpeimlbpiofkaa
open Go.RowKit

theorem Holds.spot {w : World} {A : Option Addr} {xs : List Value} (h : Holds w A xs) (h0 : 0 < xs.length) : ∃ b o, A = some ⟨b, o, none⟩ ∧ b < w.heap.size ∧ ∀ j u, xs[j]? = some u → w.cell? ⟨b, o + j, none⟩ = some u := by
  rcases h with rfl | h
  · simp at h0
  · exact h
/-- The places lie in a block that is old or new, but none of the call's own first three. -/
def Apart (B : Nat) (w : World) (A : Option Addr) (xs : List Value) : Prop := ∃ b o, A = some ⟨b, o, none⟩ ∧ b < w.heap.size ∧ (b < B ∨ B + 1 + 1 + 1 ≤ b) ∧ ∀ j u, xs[j]? = some u → w.cell? ⟨b, o + j, none⟩ = some u
theorem Apart.holds {B : Nat} {w : World} {A : Option Addr} {xs : List Value} (h : Apart B w A xs) : Holds w A xs := by
  obtain ⟨b, o, hA, hb, -, hc⟩ := h
  exact .inr ⟨b, o, hA, hb, hc⟩
theorem Apart.below {B : Nat} {w w' : World} {A : Option Addr} {xs : List Value} (h : Apart B w A xs) (hb : Below w.heap.size w w') : Apart B w' A xs := by
  obtain ⟨b, o, hA, hl, hd, hc⟩ := h
  exact ⟨b, o, hA, Nat.lt_of_lt_of_le hl hb.size, hd, fun j u hu => (hb.cell (p := ⟨b, o + j, none⟩) hl).trans (hc j u hu)⟩
theorem Apart.set {B g i : Nat} {w : World} {A : Option Addr} {xs : List Value} (h : Apart B w A xs) (hg : B ≤ g ∧ g ≤ B + 1 + 1) (v : Value) : Apart B (w.setCell ⟨g, i, none⟩ v) A xs := by
  obtain ⟨b, o, hA, hl, hd, hc⟩ := h
  refine ⟨b, o, hA, by simpa [World.setCell] using hl, hd, fun j u hu => ?_⟩
  have h1 := hc j u hu
  have h2 := Below.heap_setCell w ⟨g, i, none⟩ v b (by show b ≠ g; omega)
  simp only [World.cell?] at h1 ⊢
  rw [h2]
  exact h1

/-- What paPlay hands back. -/
def PlayPost (n : Nat) (s : Int) (bs : List Bool) (t : Bool) (ls : List (List Int)) (m : Nat) (w : World) (e : Ending) (w' : World) : Prop :=
  ∃ (A : Option Addr) (c : Nat), e = .returned (.tuple #[.agg #[.slice A m c, .bool (ended n s bs t ls).2], .int .i64 (made n s bs t ls)]) ∧ Holds w' A (bits (ended n s bs t ls).1) ∧ Below w.heap.size w w'

theorem rowNums_get {rs : List RowV} {k : Nat} (hk : k < rs.length) : (rowNums rs)[k]'(by rw [rowNums_len]; exact hk) = rs[k].xs := by simp [rowNums]

end Go.Proofs.Ytlpeimlbpiofkaa

namespace Go.Proofs.Ytlpeimlbpiofkaa
open Go.RowKit


/-- A list of lists that the call makes and goes on with: its heads in a block of the call's own, each row in a range of blocks of its own, all from lo on. -/
def Heads (w : World) (lo : Nat) (A : Option Addr) (c : Nat) (rs : List RowV) : Prop :=
  w.ownsRow lo 22 1 (.slice A rs.length c) rs.length (rowVals rs) ∧
    ∃ ps, FreeRows w ps rs ∧ (∀ p ∈ ps, lo ≤ p.1 ∧ p.2 ≤ w.heap.size) ∧ ∀ a : Addr, A = some a → ∀ p ∈ ps, a.block < p.1 ∨ p.2 ≤ a.block
theorem Heads.nil (w : World) (lo : Nat) : Heads w lo none 0 [] :=
  ⟨World.ownsRow_nil _ _ _ _, [], ⟨rfl, fun k r p h => by simp at h, fun i j p p' _ h => by simp at h⟩, fun p h => by simp at h, fun a h => by cases h⟩
theorem own_keep {w w' : World} {base : Nat} {e : TypeId} {size : Nat} {v : Value} {n : Nat} {xs : List Value} (h : w.ownsRow base e size v n xs) (hb : Below w.heap.size w w') : w'.ownsRow base e size v n xs := by
  obtain ⟨hl, h | ⟨g, cap, cur, hv, hg, hh, r⟩⟩ := h
  · exact ⟨hl, .inl h⟩
  · exact ⟨hl, .inr ⟨g, cap, cur, hv, hg, (hb.block g (Array.getElem?_eq_some_iff.1 hh).1).trans hh, r⟩⟩
theorem Heads.below {w w' : World} {lo c : Nat} {A : Option Addr} {rs : List RowV} (h : Heads w lo A c rs) (hb : Below w.heap.size w w') : Heads w' lo A c rs := by
  obtain ⟨h1, ps, h2, h3, h4⟩ := h
  exact ⟨own_keep h1 hb, ps, h2.below hb, fun p hp => ⟨(h3 p hp).1, Nat.le_trans (h3 p hp).2 hb.size⟩, h4⟩
theorem Heads.alloc {w : World} {lo c : Nat} {A : Option Addr} {rs : List RowV} (h : Heads w lo A c rs) (o : Obj) : Heads (w.alloc o) lo A c rs := h.below (below1 w o)
theorem fresh_grown {w w' : World} {lo hi : Nat} {ty : TypeId} {A : Option Addr} {xs : List Value} {row : Option Nat} (hf : Fresh w lo hi ty A xs) (hg : w.grownBy w' row) (hd : ∀ g, row = some g → g < lo ∨ hi ≤ g) : Fresh w' lo hi ty A xs := by
  rcases hf with h | ⟨g, cs, hA, h1, h2, hw, h3, h4⟩
  · exact .inl h
  · refine .inr ⟨g, cs, hA, h1, h2, ?_, h3, h4⟩
    exact (hg.block g hw.lt (fun e => by have := hd g e.symm; omega)).trans hw
/-- A row more. -/
theorem Heads.push {w w1 w2 : World} {lo c cap g : Nat} {A : Option Addr} {rs : List RowV} {r : RowV} (h : Heads w lo A c rs) (hlo : lo ≤ w.heap.size) (hb : Below w.heap.size w w1) (hr : Fresh w1 w.heap.size w1.heap.size 3 r.A (nums r.xs)) (hl : r.xs.length = r.n) (hn : r.n ≤ 1048576)
    (hown : w2.ownsRow lo 22 1 (.slice (some ⟨g, 0, none⟩) (rs.length + 1) cap) (rs.length + 1) (rowVals rs ++ [r.val])) (hg : (w1.alloc (.cells #[r.val] 22)).grownBy w2 (Value.slice A rs.length c).ownBlock)
    (hat : (Value.slice A rs.length c).ownBlock = some g ∨ g = w1.heap.size + 1) : Heads w2 lo (some ⟨g, 0, none⟩) cap (rs ++ [r]) := by
  obtain ⟨h1, ps, ⟨k1, k2, k3⟩, h3, h4⟩ := h
  have hsz := hb.size
  have hsg : w1.heap.size + 1 ≤ w2.heap.size := by have := hg.size; simpa using this
  have hob : ∀ q, (Value.slice A rs.length c).ownBlock = some q → ∃ a : Addr, A = some a ∧ a.block = q ∧ q < w.heap.size := by
    intro q hq
    cases A with
    | none => simp [Value.ownBlock] at hq
    | some a => exact ⟨a, rfl, by simpa [Value.ownBlock] using hq, (h1.lt q hq).2⟩
  refine ⟨by rw [List.length_append]; show World.ownsRow _ _ _ _ _ _ _; simpa [rowVals] using hown, ps ++ [(w.heap.size, w1.heap.size)], ⟨by simp [k1], ?_, ?_⟩, ?_, ?_⟩
  · intro k r' p' hr' hp'
    rcases Nat.lt_or_ge k rs.length with hk | hk
    · rw [List.getElem?_append_left hk] at hr'
      rw [List.getElem?_append_left (by omega)] at hp'
      obtain ⟨f1, f2⟩ := k2 k r' p' hr' hp'
      have hm := List.mem_of_getElem? hp'
      refine ⟨fresh_grown ((f1.below hb).alloc _) hg fun q hq => ?_, f2⟩
      obtain ⟨a, hA, hq2, -⟩ := hob q hq
      have := h4 a hA p' hm
      omega
    · have hke : k = rs.length := by
        have := (List.getElem?_eq_some_iff.1 hr').1
        simp at this
        omega
      subst hke
      rw [List.getElem?_append_right (Nat.le_refl _)] at hr'
      rw [List.getElem?_append_right (by omega), k1] at hp'
      simp at hr' hp'
      subst hr' hp'
      exact ⟨fresh_grown (hr.alloc _) hg fun q hq => by obtain ⟨a, -, -, hlt⟩ := hob q hq; exact .inl hlt, hl, hn⟩
  · intro i j p p' hij hp hp'
    have hlen : ∀ {i : Nat} {p : Nat × Nat}, (ps ++ [(w.heap.size, w1.heap.size)])[i]? = some p → (i < ps.length ∧ ps[i]? = some p) ∨ (i = ps.length ∧ p = (w.heap.size, w1.heap.size)) := by
      intro i p hp
      rcases Nat.lt_or_ge i ps.length with hi | hi
      · rw [List.getElem?_append_left hi] at hp
        exact .inl ⟨hi, hp⟩
      · have hie : i = ps.length := by
          have := (List.getElem?_eq_some_iff.1 hp).1
          simp at this
          omega
        subst hie
        rw [List.getElem?_append_right (Nat.le_refl _)] at hp
        simp at hp
        exact .inr ⟨rfl, hp.symm⟩
    rcases hlen hp with ⟨hi, hp⟩ | ⟨hi, rfl⟩ <;> rcases hlen hp' with ⟨hj, hp'⟩ | ⟨hj, rfl⟩
    · exact k3 i j p p' hij hp hp'
    · exact .inl (h3 p (List.mem_of_getElem? hp)).2
    · exact .inr (h3 p' (List.mem_of_getElem? hp')).2
    · omega
  · intro p hp
    rcases List.mem_append.1 hp with hp | hp
    · exact ⟨(h3 p hp).1, by have := (h3 p hp).2; omega⟩
    · simp only [List.mem_singleton] at hp
      subst hp
      exact ⟨hlo, by show w1.heap.size ≤ _; omega⟩
  · intro a ha p hp
    obtain rfl : (⟨g, 0, none⟩ : Addr) = a := Option.some.inj ha
    show g < p.1 ∨ p.2 ≤ g
    rcases List.mem_append.1 hp with hp | hp
    · rcases hat with hat | hat
      · obtain ⟨a, hA, hq2, -⟩ := hob g hat
        have := h4 a hA p hp
        omega
      · have := (h3 p hp).2
        omega
    · simp only [List.mem_singleton] at hp
      subst hp
      show g < w.heap.size ∨ w1.heap.size ≤ g
      rcases hat with hat | hat
      · obtain ⟨-, -, -, hlt⟩ := hob g hat
        exact .inl hlt
      · omega
/-- What was made is the call's own, all of it. -/
theorem Heads.free {w : World} {lo c : Nat} {A : Option Addr} {rs : List RowV} (h : Heads w lo A c rs) : FreeGrid w lo w.heap.size A rs := by
  obtain ⟨h1, ps, h2, h3, h4⟩ := h
  refine ⟨ps, h2, h3, ?_⟩
  rcases own_some h1 with ⟨rfl, hn, -⟩ | ⟨g, rfl, -⟩
  · exact .inl (List.length_eq_zero_iff.1 hn)
  · obtain ⟨-, ⟨hv, -⟩ | ⟨g', cap, cur, hv, hb, hh, -, -, -, ht⟩⟩ := h1
    · simp at hv
    · obtain ⟨rfl, -⟩ : g = g' ∧ c = cap := by simpa using hv
      have hlt := (Array.getElem?_eq_some_iff.1 hh).1
      refine .inr ⟨g, 0, rfl, hlt, hb, hlt, fun p hp => h4 _ rfl p hp, fun j u hu => ?_⟩
      rw [Nat.zero_add, (show Whole w g 22 cur from hh).cell j]
      rw [← ht, List.getElem?_take] at hu
      split at hu
      · simpa using hu
      · simp at hu
/-- What a call hands back that makes a list of lists. -/
def RowsPost (ls : List (List Int)) (w : World) (e : Ending) (w' : World) : Prop :=
  ∃ (A : Option Addr) (c : Nat) (rs : List RowV), e = .returned (.slice A rs.length c) ∧ rowNums rs = ls ∧ FreeGrid w' w.heap.size w'.heap.size A rs ∧ Below w.heap.size w w'
end Go.Proofs.Ytlpeimlbpiofkaa

namespace Go.Proofs.Ytlpeimlbpiofkaa
open Go.RowKit

/-- Rows that lie each in a range of blocks of its own, all from lo on, none where A points. -/
def Spread (w : World) (lo : Nat) (A : Option Addr) (rs : List RowV) : Prop :=
  ∃ ps, FreeRows w ps rs ∧ (∀ p ∈ ps, lo ≤ p.1 ∧ p.2 ≤ w.heap.size) ∧ ∀ a : Addr, A = some a → ∀ p ∈ ps, a.block < p.1 ∨ p.2 ≤ a.block
theorem Spread.nil (w : World) (lo : Nat) : Spread w lo none [] :=
  ⟨[], ⟨rfl, fun k r p h => by simp at h, fun i j p p' _ h => by simp at h⟩, fun p h => by simp at h, fun a h => by cases h⟩
theorem Spread.below {w w' : World} {lo : Nat} {A : Option Addr} {rs : List RowV} (h : Spread w lo A rs) (hb : Below w.heap.size w w') : Spread w' lo A rs := by
  obtain ⟨ps, h2, h3, h4⟩ := h
  exact ⟨ps, h2.below hb, fun p hp => ⟨(h3 p hp).1, Nat.le_trans (h3 p hp).2 hb.size⟩, h4⟩
theorem Spread.ok {w : World} {lo : Nat} {A : Option Addr} {rs : List RowV} (h : Spread w lo A rs) : ∀ r ∈ rs, RowOk w r := by
  obtain ⟨ps, ⟨h1, h2, -⟩, -, -⟩ := h
  intro r hr
  obtain ⟨k, hk, rfl⟩ := List.getElem_of_mem hr
  obtain ⟨f1, f2, f3⟩ := h2 k rs[k] (ps[k]'(by omega)) (List.getElem?_eq_getElem hk) (List.getElem?_eq_getElem (by omega))
  exact ⟨f1.holds, f2, by omega⟩
/-- A row more. -/
theorem Spread.push {w w1 w2 : World} {lo g : Nat} {A : Option Addr} {rs : List RowV} {r : RowV} {o : Obj} {v : Value} (h : Spread w lo A rs) (hown0 : ∀ q, v.ownBlock = some q → ∃ a : Addr, A = some a ∧ a.block = q ∧ q < w.heap.size) (hlo : lo ≤ w.heap.size) (hb : Below w.heap.size w w1) (hr : Fresh w1 w.heap.size w1.heap.size 3 r.A (nums r.xs)) (hl : r.xs.length = r.n) (hn : r.n ≤ 1048576)
    (hg : (w1.alloc o).grownBy w2 v.ownBlock)
    (hat : v.ownBlock = some g ∨ g = w1.heap.size + 1) : Spread w2 lo (some ⟨g, 0, none⟩) (rs ++ [r]) := by
  obtain ⟨ps, ⟨k1, k2, k3⟩, h3, h4⟩ := h
  have hsz := hb.size
  have hsg : w1.heap.size + 1 ≤ w2.heap.size := by have := hg.size; simpa using this
  have hob := hown0
  refine ⟨ps ++ [(w.heap.size, w1.heap.size)], ⟨by simp [k1], ?_, ?_⟩, ?_, ?_⟩
  · intro k r' p' hr' hp'
    rcases Nat.lt_or_ge k rs.length with hk | hk
    · rw [List.getElem?_append_left hk] at hr'
      rw [List.getElem?_append_left (by omega)] at hp'
      obtain ⟨f1, f2⟩ := k2 k r' p' hr' hp'
      have hm := List.mem_of_getElem? hp'
      refine ⟨fresh_grown ((f1.below hb).alloc _) hg fun q hq => ?_, f2⟩
      obtain ⟨a, hA, hq2, -⟩ := hob q hq
      have := h4 a hA p' hm
      omega
    · have hke : k = rs.length := by
        have := (List.getElem?_eq_some_iff.1 hr').1
        simp at this
        omega
      subst hke
      rw [List.getElem?_append_right (Nat.le_refl _)] at hr'
      rw [List.getElem?_append_right (by omega), k1] at hp'
      simp at hr' hp'
      subst hr' hp'
      exact ⟨fresh_grown (hr.alloc _) hg fun q hq => by obtain ⟨a, -, -, hlt⟩ := hob q hq; exact .inl hlt, hl, hn⟩
  · intro i j p p' hij hp hp'
    have hlen : ∀ {i : Nat} {p : Nat × Nat}, (ps ++ [(w.heap.size, w1.heap.size)])[i]? = some p → (i < ps.length ∧ ps[i]? = some p) ∨ (i = ps.length ∧ p = (w.heap.size, w1.heap.size)) := by
      intro i p hp
      rcases Nat.lt_or_ge i ps.length with hi | hi
      · rw [List.getElem?_append_left hi] at hp
        exact .inl ⟨hi, hp⟩
      · have hie : i = ps.length := by
          have := (List.getElem?_eq_some_iff.1 hp).1
          simp at this
          omega
        subst hie
        rw [List.getElem?_append_right (Nat.le_refl _)] at hp
        simp at hp
        exact .inr ⟨rfl, hp.symm⟩
    rcases hlen hp with ⟨hi, hp⟩ | ⟨hi, rfl⟩ <;> rcases hlen hp' with ⟨hj, hp'⟩ | ⟨hj, rfl⟩
    · exact k3 i j p p' hij hp hp'
    · exact .inl (h3 p (List.mem_of_getElem? hp)).2
    · exact .inr (h3 p' (List.mem_of_getElem? hp')).2
    · omega
  · intro p hp
    rcases List.mem_append.1 hp with hp | hp
    · exact ⟨(h3 p hp).1, by have := (h3 p hp).2; omega⟩
    · simp only [List.mem_singleton] at hp
      subst hp
      exact ⟨hlo, by show w1.heap.size ≤ _; omega⟩
  · intro a ha p hp
    obtain rfl : (⟨g, 0, none⟩ : Addr) = a := Option.some.inj ha
    show g < p.1 ∨ p.2 ≤ g
    rcases List.mem_append.1 hp with hp | hp
    · rcases hat with hat | hat
      · obtain ⟨a, hA, hq2, -⟩ := hob g hat
        have := h4 a hA p hp
        omega
      · have := (h3 p hp).2
        omega
    · simp only [List.mem_singleton] at hp
      subst hp
      show g < w.heap.size ∨ w1.heap.size ≤ g
      rcases hat with hat | hat
      · obtain ⟨-, -, -, hlt⟩ := hob g hat
        exact .inl hlt
      · omega

/-- A move's cells: its list, and the place behind it. -/
def moveCells (bs : List Bool) (t : Bool) (r : RowV) : List Value := r.val :: (placeCells (flipped bs r.xs) (!t)).toList
def movesCells (bs : List Bool) (t : Bool) (rs : List RowV) : List Value := rs.flatMap (moveCells bs t)
theorem movesCells_snoc (bs : List Bool) (t : Bool) (rs : List RowV) (r : RowV) : movesCells bs t (rs ++ [r]) = movesCells bs t rs ++ moveCells bs t r := by simp [movesCells]
theorem moveCells_at (bs : List Bool) (t : Bool) (r : RowV) : moveCells bs t r = [r.val, .bool ((flipped bs r.xs).getD 0 false), .bool ((flipped bs r.xs).getD 1 false), .bool ((flipped bs r.xs).getD 2 false), .bool ((flipped bs r.xs).getD 3 false), .bool ((flipped bs r.xs).getD 4 false), .bool ((flipped bs r.xs).getD 5 false), .bool ((flipped bs r.xs).getD 6 false), .bool ((flipped bs r.xs).getD 7 false), .bool (!t)] := rfl
theorem movesCells_get (bs : List Bool) (t : Bool) : ∀ (rs : List RowV) (i j : Nat) (hi : i < rs.length), j < 10 → (movesCells bs t rs)[i * 10 + j]? = (moveCells bs t rs[i])[j]?
  | [], i, j, hi, _ => by simp at hi
  | r :: q, 0, j, hi, hj => by
    rw [show movesCells bs t (r :: q) = moveCells bs t r ++ movesCells bs t q from rfl, Nat.zero_mul, Nat.zero_add, List.getElem?_append_left (by rw [moveCells_at]; simpa using hj)]
    rfl
  | r :: q, i + 1, j, hi, hj => by
    have ih := movesCells_get bs t q i j (by simpa using hi) hj
    rw [show movesCells bs t (r :: q) = moveCells bs t r ++ movesCells bs t q from rfl, List.getElem?_append_right (by rw [moveCells_at]; simp; omega)]
    rw [show (i + 1) * 10 + j - (moveCells bs t r).length = i * 10 + j by rw [moveCells_at]; simp; omega]
    simpa using ih
/-- A list of moves that the call makes. -/
def Moves (w : World) (lo : Nat) (A : Option Addr) (c : Nat) (bs : List Bool) (t : Bool) (rs : List RowV) : Prop :=
  w.ownsRow lo 155 10 (.slice A rs.length c) rs.length (movesCells bs t rs) ∧ Spread w lo A rs
theorem Moves.nil (w : World) (lo : Nat) (bs : List Bool) (t : Bool) : Moves w lo none 0 bs t [] := ⟨World.ownsRow_nil _ _ _ _, Spread.nil _ _⟩
theorem Moves.below {w w' : World} {lo c : Nat} {A : Option Addr} {bs : List Bool} {t : Bool} {rs : List RowV} (h : Moves w lo A c bs t rs) (hb : Below w.heap.size w w') : Moves w' lo A c bs t rs := ⟨ownsRow_below h.1 hb, h.2.below hb⟩
theorem info_move : (Try.prog.info? 155).map (fun i => (i.zero, i.size, i.bytes)) = some (some (.agg #[.slice none 0 0, .bool false, .bool false, .bool false, .bool false, .bool false, .bool false, .bool false, .bool false, .bool false]), 10, 40) := by kernel_rfl
theorem slice_own {A : Option Addr} {n c : Nat} {q : Nat} (h : (Value.slice A n c).ownBlock = some q) : ∃ a : Addr, A = some a ∧ a.block = q := by
  cases A with
  | none => simp [Value.ownBlock] at h
  | some a => exact ⟨a, rfl, by simpa [Value.ownBlock] using h⟩
end Go.Proofs.Ytlpeimlbpiofkaa

namespace Go.Proofs.Ytlpeimlbpiofkaa

theorem bv_nat {a : Nat} (ha : a < 9223372036854775808) : (BitVec.ofInt 64 (a : Int)).toNat = a := by
  rw [BitVec.ofInt_natCast, BitVec.toNat_ofNat]; exact Nat.mod_eq_of_lt (by omega)
theorem bits_or_nat (a b : Nat) (ha : a < 9223372036854775808) (hb : b < 9223372036854775808) : Go.bits .or .i64 (a : Int) (b : Int) = ((a ||| b : Nat) : Int) := by
  have hx : a ||| b < 2 ^ 63 := Nat.or_lt_two_pow (by omega) (by omega)
  show IntKind.i64.wrap ((BitVec.ofInt 64 (a : Int) ||| BitVec.ofInt 64 (b : Int)).toNat : Int) = _
  rw [BitVec.toNat_or, bv_nat ha, bv_nat hb]
  exact IntWalk.i64_in _ (by omega)
theorem bits_and_nat (a b : Nat) (ha : a < 9223372036854775808) (hb : b < 9223372036854775808) : Go.bits .and .i64 (a : Int) (b : Int) = ((a &&& b : Nat) : Int) := by
  have hx : a &&& b < 2 ^ 63 := Nat.and_lt_two_pow _ (by omega)
  show IntKind.i64.wrap ((BitVec.ofInt 64 (a : Int) &&& BitVec.ofInt 64 (b : Int)).toNat : Int) = _
  rw [BitVec.toNat_and, bv_nat ha, bv_nat hb]
  exact IntWalk.i64_in _ (by omega)
theorem bits_xor_nat (a b : Nat) (ha : a < 9223372036854775808) (hb : b < 9223372036854775808) : Go.bits .xor .i64 (a : Int) (b : Int) = ((a ^^^ b : Nat) : Int) := by
  have hx : a ^^^ b < 2 ^ 63 := Nat.xor_lt_two_pow (by omega) (by omega)
  show IntKind.i64.wrap ((BitVec.ofInt 64 (a : Int) ^^^ BitVec.ofInt 64 (b : Int)).toNat : Int) = _
  rw [BitVec.toNat_xor, bv_nat ha, bv_nat hb]
  exact IntWalk.i64_in _ (by omega)

/-- Bit i of a number. -/
def bitAt (m i : Nat) : Bool := m.testBit i
theorem bitAt_def (m i : Nat) : bitAt m i = decide (m / 2 ^ i % 2 = 1) := Nat.testBit_eq_decide_div_mod_eq
theorem shr_nat (m i : Nat) : (m : Int) / 2 ^ i = ((m / 2 ^ i : Nat) : Int) := by push_cast; rfl
theorem bit_next (m i : Nat) : m / 2 ^ (i + 1) = m / 2 ^ i / 2 := by rw [Nat.pow_succ, Nat.div_div_eq_div_mul]
/-- Two bits, the lower one clear and the upper one set. -/
theorem two_bits (m i : Nat) : decide (m / 2 ^ i % 4 = 2) = (bitAt m (i + 1) && !bitAt m i) := by
  rw [bitAt_def, bitAt_def, bit_next]
  generalize m / 2 ^ i = x
  rw [Bool.eq_iff_iff]
  simp
  omega
theorem or_bit (m k i : Nat) : bitAt (m ||| 2 ^ k) i = (bitAt m i || decide (k = i)) := by
  simp [bitAt, Nat.testBit_or, Nat.testBit_two_pow]
end Go.Proofs.Ytlpeimlbpiofkaa

namespace Go.Proofs.Ytlpeimlbpiofkaa
open Go.RowKit

/-- Is some keeper of the first k couples there; is some kept one of them without its own. -/
def keepTo (f : Nat → Bool) : Nat → Bool
  | 0 => false
  | k + 1 => keepTo f k || f (2 * k)
def leftTo (f : Nat → Bool) : Nat → Bool
  | 0 => false
  | k + 1 => leftTo f k || (f (2 * k + 1) && !f (2 * k))
/-- A calm group of so many couples. -/
def calm (c : Nat) (f : Nat → Bool) : Bool := !keepTo f c || !leftTo f c
theorem keep_yes {f : Nat → Bool} {k : Nat} (h : f (2 * k) = true) : ∀ {c : Nat}, k < c → keepTo f c = true
  | 0, hc => absurd hc (by omega)
  | c + 1, hc => by
    rcases Nat.lt_succ_iff_lt_or_eq.1 hc with h1 | rfl
    · simp [keepTo, keep_yes h h1]
    · simp [keepTo, h]
theorem left_yes {f : Nat → Bool} {k : Nat} (h : (f (2 * k + 1) && !f (2 * k)) = true) : ∀ {c : Nat}, k < c → leftTo f c = true
  | 0, hc => absurd hc (by omega)
  | c + 1, hc => by
    rcases Nat.lt_succ_iff_lt_or_eq.1 hc with h1 | rfl
    · simp [leftTo, left_yes h h1]
    · rw [leftTo, h, Bool.or_true]
theorem calm_no {f : Nat → Bool} {c : Nat} (h1 : keepTo f c = true) (h2 : leftTo f c = true) : calm c f = false := by simp [calm, h1, h2]
theorem calm_yes {f : Nat → Bool} {c : Nat} (h : leftTo f c = true → keepTo f c = false) : calm c f = true := by
  cases h2 : leftTo f c
  · simp [calm, h2]
  · simp [calm, h h2]
theorem keep_congr {f g : Nat → Bool} : ∀ {c : Nat}, (∀ i, i < 2 * c → f i = g i) → keepTo f c = keepTo g c
  | 0, _ => rfl
  | c + 1, h => by rw [keepTo, keepTo, keep_congr (fun i hi => h i (by omega)), h (2 * c) (by omega)]
theorem left_congr {f g : Nat → Bool} : ∀ {c : Nat}, (∀ i, i < 2 * c → f i = g i) → leftTo f c = leftTo g c
  | 0, _ => rfl
  | c + 1, h => by rw [leftTo, leftTo, left_congr (fun i hi => h i (by omega)), h (2 * c) (by omega), h (2 * c + 1) (by omega)]
theorem calm_congr {f g : Nat → Bool} {c : Nat} (h : ∀ i, i < 2 * c → f i = g i) : calm c f = calm c g := by rw [calm, calm, keep_congr h, left_congr h]

/-- The model's two tests at a number of bits. -/
theorem test4 (m k : Nat) : (((m : Int) / 2 ^ (2 * k)).tmod 4 != 2) = !(bitAt m (2 * k + 1) && !bitAt m (2 * k)) := by
  rw [shr_nat, Int.tmod_eq_emod_of_nonneg (Int.natCast_nonneg _), ← two_bits]
  generalize m / 2 ^ (2 * k) = x
  by_cases h : x % 4 = 2
  · have : ((x : Int) % 4) = 2 := by omega
    simp [h, this]
  · have : ((x : Int) % 4) ≠ 2 := by omega
    simp [h, this]
theorem test2 (m k : Nat) : (((m : Int) / 2 ^ (2 * k)).tmod 2 == 1) = bitAt m (2 * k) := by
  rw [shr_nat, Int.tmod_eq_emod_of_nonneg (Int.natCast_nonneg _), bitAt_def]
  generalize m / 2 ^ (2 * k) = x
  by_cases h : x % 2 = 1
  · have : ((x : Int) % 2) = 1 := by omega
    simp [h, this]
  · have : ((x : Int) % 2) ≠ 1 := by omega
    simp [h, this]
theorem test4_yes {m k : Nat} (h : (bitAt m (2 * k + 1) && !bitAt m (2 * k)) = true) : (((m : Int) / 2 ^ (2 * k)).tmod 4 != 2) = false := by rw [test4, h]; rfl
theorem test4_no {m k : Nat} (h : (bitAt m (2 * k + 1) && !bitAt m (2 * k)) = false) : (((m : Int) / 2 ^ (2 * k)).tmod 4 != 2) = true := by rw [test4, h]; rfl

theorem left_none {f : Nat → Bool} {k : Nat} {X : Prop} (hl : leftTo f k = true → X) (h : (f (2 * k + 1) && !f (2 * k)) = false) : leftTo f (k + 1) = true → X := by
  rw [leftTo, h, Bool.or_false]; exact hl
theorem keep_none {f : Nat → Bool} {j : Nat} (hk : keepTo f j = false) (h : f (2 * j) = false) : keepTo f (j + 1) = false := by rw [keepTo, hk, h]; rfl

theorem snoc_ind {α : Type} {P : List α → Prop} (h0 : P []) (h1 : ∀ l x, P l → P (l ++ [x])) (l : List α) : P l := by
  suffices h : ∀ r : List α, P r.reverse by have := h l.reverse; rwa [List.reverse_reverse] at this
  intro r
  induction r with
  | nil => exact h0
  | cons x r ih => rw [List.reverse_cons]; exact h1 _ _ ih

/-- The people on a list, as bits. -/
def maskOf (l : List Int) : Nat := l.foldl (fun m k => m ||| 2 ^ k.toNat) 0
theorem mask_snoc (l : List Int) (x : Int) : maskOf (l ++ [x]) = maskOf l ||| 2 ^ x.toNat := by rw [maskOf, List.foldl_append]; rfl
theorem mask_next {l : List Int} {k : Nat} (hk : k < l.length) : maskOf (l.take (k + 1)) = maskOf (l.take k) ||| 2 ^ (l[k]).toNat := by
  rw [List.take_succ_eq_append_getElem hk, mask_snoc]
theorem mask_bit (l : List Int) : (∀ x ∈ l, 0 ≤ x) → ∀ i, bitAt (maskOf l) i = has l i := by
  induction l using snoc_ind with
  | h0 => intro _ i; simp [maskOf, has, bitAt]
  | h1 l x ih =>
    intro h i
    rw [mask_snoc, or_bit, ih (fun y hy => h y (by simp [hy])), has_snoc]
    congr 1
    have := h x (by simp)
    rw [Bool.eq_iff_iff]
    simp
    omega
theorem mask_lt {n : Nat} (hn : 0 < n) (l : List Int) : (∀ x ∈ l, x < n) → maskOf l < 2 ^ n := by
  induction l using snoc_ind with
  | h0 => intro _; simp [maskOf]; exact Nat.two_pow_pos n
  | h1 l x ih =>
    intro h
    rw [mask_snoc]
    refine Nat.or_lt_two_pow (ih (fun y hy => h y (by simp [hy]))) ?_
    have := h x (by simp)
    exact Nat.pow_lt_pow_right (by omega) (by omega)
end Go.Proofs.Ytlpeimlbpiofkaa

namespace Go.Proofs.Ytlpeimlbpiofkaa
open Go.RowKit

theorem wrap_pow {x : Nat} (h : x ≤ 7) : wrap64 ((2 : Int) ^ x) = ((2 ^ x : Nat) : Int) := by
  have h1 : 2 ^ x ≤ 2 ^ 7 := Nat.pow_le_pow_right (by omega) h
  rw [show (2 : Int) ^ x = ((2 ^ x : Nat) : Int) by push_cast; rfl]
  generalize 2 ^ x = y at h1 ⊢
  unfold wrap64
  omega
theorem pow_small {x : Nat} (h : x ≤ 7) : 2 ^ x < 9223372036854775808 := Nat.lt_of_le_of_lt (Nat.pow_le_pow_right (by omega) h) (by decide)
theorem mask_take {l : List Int} {hi : Int} (hs : StepsTo l hi l.length) (h7 : hi ≤ 7) (k : Nat) : maskOf (l.take k) < 9223372036854775808 :=
  Nat.lt_of_lt_of_le (mask_lt (n := 8) (by omega) _ (fun x hx => by have := (mem_steps hs (List.mem_of_mem_take hx)).2; omega)) (by decide)
theorem mask_small {l : List Int} {hi : Int} (hs : StepsTo l hi l.length) (h7 : hi ≤ 7) : maskOf l < 256 :=
  mask_lt (n := 8) (by omega) _ (fun x hx => by have := (mem_steps hs hx).2; omega)

/-- Eight truth values as the cells of a crowd. -/
def cells8 (f : Nat → Bool) : Array Value := #[.bool (f 0), .bool (f 1), .bool (f 2), .bool (f 3), .bool (f 4), .bool (f 5), .bool (f 6), .bool (f 7)]
theorem cells8_at (f : Nat → Bool) {i : Nat} (h : i < 8) : (cells8 f)[i]? = some (.bool (f i)) := by
  match i, h with
  | 0, _ => rfl
  | 1, _ => rfl
  | 2, _ => rfl
  | 3, _ => rfl
  | 4, _ => rfl
  | 5, _ => rfl
  | 6, _ => rfl
  | 7, _ => rfl
theorem crowd8 (l : List Int) : crowdCells l = cells8 (has l) := rfl

end Go.Proofs.Ytlpeimlbpiofkaa

namespace Go.Proofs.Ytlpeimlbpiofkaa
open Go.RowKit

theorem steps_ge {l : List Int} {hi : Int} (h : StepsTo l hi l.length) : ∀ k, k < l.length → (k : Int) ≤ l.getD k 0
  | 0, hk => (h 0 hk).1
  | k + 1, hk => by
    have h1 := steps_ge h k (by omega)
    rcases (h (k + 1) hk).2.2 with h2 | h2
    · omega
    · rw [Nat.add_sub_cancel] at h2; omega
theorem steps_len {l : List Int} {hi : Int} (h : StepsTo l hi l.length) (h0 : 0 < l.length) : (l.length : Int) ≤ hi + 1 := by
  have h1 := steps_ge h (l.length - 1) (by omega)
  have h2 := (h (l.length - 1) (by omega)).2.1
  omega
theorem trip_rising {l : List Int} {c : Nat} (h0 : 0 < l.length) : isTrip (2 * c) (2 * (c : Int)) l = rising l (2 * c - 1) := by
  unfold isTrip
  have hc : (((2 * c : Nat) : Int) - 1) = 2 * c - 1 := by omega
  rw [hc]
  cases h : rising l (2 * c - 1)
  · simp
  · have := steps_len (rising_steps h) h0
    rw [within_yes (by omega) (by omega)]; rfl

/-- There is a group of so many couples. -/
noncomputable def isGroup (c : Int) (l : List Int) : Bool := within c 1 4 && rising l (2 * c - 1)
/-- What IsCalmGroup hands back. -/
noncomputable def calmOf (c : Int) (l : List Int) : Bool := isGroup c l && calm c.toNat (has l)
theorem group_no {c : Int} {l : List Int} (h : within c 1 4 = false) : isGroup c l = false := by simp [isGroup, h]
theorem group_no2 {c : Int} {l : List Int} (h : rising l (2 * c - 1) = false) : isGroup c l = false := by simp [isGroup, h]
theorem group_yes {c : Int} {l : List Int} (h : within c 1 4 = true) (h2 : rising l (2 * c - 1) = true) : isGroup c l = true := by simp [isGroup, h, h2]
theorem calmOf_no {c : Int} {l : List Int} (h : isGroup c l = false) : calmOf c l = false := by simp [calmOf, h]
theorem calmOf_yes {c : Nat} {l : List Int} (h : isGroup c l = true) : calmOf c l = calm c (has l) := by simp [calmOf, h]
theorem calm_mask {c : Nat} {l : List Int} {hi : Int} (hs : StepsTo l hi l.length) : calm c (bitAt (maskOf l)) = calm c (has l) :=
  calm_congr fun i _ => mask_bit l (fun _ hx => (mem_steps hs hx).1) i

end Go.Proofs.Ytlpeimlbpiofkaa

namespace Go.Proofs.Ytlpeimlbpiofkaa
open Go.RowKit

/-- A company, told in plain words. -/
def isCo (a b : Int) : Bool := within a 1 4 && within b 1 4
theorem isCo_no {a b : Int} (h : a < 1 ∨ 4 < a ∨ b < 1 ∨ 4 < b) : isCo a b = false := by
  cases h1 : isCo a b
  · rfl
  · simp only [isCo, Bool.and_eq_true, within_iff] at h1
    omega
theorem isCo_yes {a b : Int} (h1 : 1 ≤ a) (h2 : a ≤ 4) (h3 : 1 ≤ b) (h4 : b ≤ 4) : isCo a b = true := by
  simp [isCo, within_yes h1 h2, within_yes h3 h4]
theorem isCo_iff {a b : Int} : isCo a b = true ↔ (1 ≤ a ∧ a ≤ 4) ∧ 1 ≤ b ∧ b ≤ 4 := by
  simp only [isCo, Bool.and_eq_true, within_iff]

end Go.Proofs.Ytlpeimlbpiofkaa

namespace Go.Proofs.Ytlpeimlbpiofkaa
open Go.RowKit

/-- What two boxes of two cells each hold. -/
def Boxes2 (g h : Nat) (x y u v : Value) (w : World) : Prop :=
  w.cell? ⟨g, 0, none⟩ = some x ∧ w.cell? ⟨g, 1, none⟩ = some y ∧ w.cell? ⟨h, 0, none⟩ = some u ∧ w.cell? ⟨h, 1, none⟩ = some v
theorem boxes2_of {g h : Nat} {t t' : TypeId} {x y u v : Value} {w : World} (h1 : Whole w g t #[x, y]) (h2 : Whole w h t' #[u, v]) : Boxes2 g h x y u v w :=
  ⟨h1.cell 0, h1.cell 1, h2.cell 0, h2.cell 1⟩
def Box1 (g : Nat) (x y : Value) (w : World) : Prop := w.cell? ⟨g, 0, none⟩ = some x ∧ w.cell? ⟨g, 1, none⟩ = some y
theorem box1_of {g : Nat} {t : TypeId} {x y : Value} {w : World} (h1 : Whole w g t #[x, y]) : Box1 g x y w := ⟨h1.cell 0, h1.cell 1⟩

/-- The number whose bits tell what f says of the first ones. -/
def maskUp (f : Nat → Bool) : Nat → Nat
  | 0 => 0
  | k + 1 => maskUp f k + (if f k then 2 ^ k else 0)
theorem maskUp_lt (f : Nat → Bool) : ∀ k, maskUp f k < 2 ^ k
  | 0 => by simp [maskUp]
  | k + 1 => by
    have := maskUp_lt f k
    rw [maskUp, Nat.pow_succ]
    split <;> omega
theorem bit_maskUp (f : Nat → Bool) : ∀ k i, bitAt (maskUp f k) i = (decide (i < k) && f i)
  | 0, i => by simp [maskUp, bitAt]
  | k + 1, i => by
    have ih := bit_maskUp f k i
    have hlt := maskUp_lt f k
    unfold bitAt at ih ⊢
    rw [maskUp]
    cases hf : f k
    · have e : (decide (i < k + 1) && f i) = (decide (i < k) && f i) := by
        rcases Nat.lt_trichotomy i k with h | h | h
        · simp [h, Nat.lt_succ_of_lt h]
        · subst h; simp [hf]
        · have h1 : ¬ i < k + 1 := by omega
          have h3 : ¬ i < k := by omega
          simp [h1, h3]
      simp only [Bool.false_eq_true, if_false, Nat.add_zero]
      rw [ih, e]
    · simp only [if_true]
      have h2 := Nat.two_pow_add_eq_or_of_lt hlt 1
      rw [Nat.mul_one] at h2
      rw [Nat.add_comm, h2, Nat.testBit_or, ih, Nat.testBit_two_pow]
      rcases Nat.lt_trichotomy i k with h | h | h
      · simp [h, Nat.lt_succ_of_lt h]; omega
      · subst h; simp [hf]
      · have h1 : ¬ i < k + 1 := by omega
        have h3 : ¬ i < k := by omega
        have h4 : k ≠ i := by omega
        simp [h1, h3, h4]
theorem mask_up_or {f : Nat → Bool} {k : Nat} (h : f k = true) : (2 * maskUp f k) ||| 2 ^ (k + 1) = 2 * maskUp f (k + 1) := by
  have hlt := maskUp_lt f k
  have h2 := Nat.two_pow_add_eq_or_of_lt (i := k + 1) (b := 2 * maskUp f k) (by rw [Nat.pow_succ]; omega) 1
  rw [Nat.mul_one] at h2
  rw [Nat.or_comm, ← h2, maskUp, h, Nat.pow_succ]
  simp
  omega
theorem mask_up_no {f : Nat → Bool} {k : Nat} (h : f k = false) : maskUp f (k + 1) = maskUp f k := by rw [maskUp, h]; simp
/-- The number of a state. -/
def codeOf (bs : List Bool) (t : Bool) : Nat := 2 * maskUp (fun i => bs.getD i false) bs.length + t.toNat
theorem code_half (bs : List Bool) (t : Bool) : codeOf bs t / 2 = maskUp (fun i => bs.getD i false) bs.length := by unfold codeOf; cases t <;> simp <;> omega
theorem code_lt (bs : List Bool) (t : Bool) : codeOf bs t / 2 < 2 ^ bs.length := by rw [code_half]; exact maskUp_lt _ _
/-- A calm state: who is over, and who is not. -/
def quiet (c : Nat) (f : Nat → Bool) : Bool := calm c f && calm c (fun i => !f i)
theorem quiet_no {c : Nat} {f : Nat → Bool} (h : calm c f = false) : quiet c f = false := by simp [quiet, h]
theorem quiet_yes {c : Nat} {f : Nat → Bool} (h : calm c f = true) : quiet c f = calm c (fun i => !f i) := by simp [quiet, h]
theorem quiet_congr {c : Nat} {f g : Nat → Bool} (h : ∀ i, i < 2 * c → f i = g i) : quiet c f = quiet c g := by
  rw [quiet, quiet, calm_congr h, calm_congr (f := fun i => !f i) (g := fun i => !g i) (fun i hi => by rw [h i hi])]
theorem rest_bit {n m : Nat} (h : m < 2 ^ n) (i : Nat) : bitAt (2 ^ n - 1 - m) i = (decide (i < n) && !bitAt m i) := by
  rw [Nat.sub_sub, Nat.add_comm]; exact Nat.testBit_two_pow_sub_succ h i
theorem calm_rest {c m : Nat} (h : m < 2 ^ (2 * c)) : calm c (bitAt (2 ^ (2 * c) - 1 - m)) = calm c (fun i => !bitAt m i) :=
  calm_congr fun i hi => by rw [rest_bit h]; simp [hi]
theorem quiet_code {c : Nat} {bs : List Bool} {t : Bool} (h : bs.length = 2 * c) : quiet c (bitAt (codeOf bs t / 2)) = quiet c (fun i => bs.getD i false) :=
  quiet_congr fun i hi => by rw [code_half, bit_maskUp]; simp [h, hi]

theorem pow_c {c : Nat} (h : c ≤ 4) : 2 ^ (2 * c) ≤ 256 := by
  match c, h with
  | 0, _ => decide
  | 1, _ => decide
  | 2, _ => decide
  | 3, _ => decide
  | 4, _ => decide
theorem wrap_size {c : Nat} (h : c ≤ 4) : wrap64 ((2 : Int) ^ (2 * c)) = ((2 ^ (2 * c) : Nat) : Int) := by
  have h1 := pow_c h
  rw [show (2 : Int) ^ (2 * c) = ((2 ^ (2 * c) : Nat) : Int) by push_cast; rfl]
  generalize 2 ^ (2 * c) = y at h1 ⊢
  unfold wrap64
  omega
theorem wrap_twice {k : Nat} (h : k ≤ 7) : wrap64 (2 * (2 : Int) ^ k) = ((2 ^ (k + 1) : Nat) : Int) := by
  have h1 : 2 ^ k ≤ 2 ^ 7 := Nat.pow_le_pow_right (by omega) h
  rw [show (2 : Int) ^ k = ((2 ^ k : Nat) : Int) by push_cast; rfl, Nat.pow_succ]
  generalize 2 ^ k = y at h1 ⊢
  unfold wrap64
  omega

end Go.Proofs.Ytlpeimlbpiofkaa

namespace Go.Proofs.Ytlpeimlbpiofkaa
open Go.RowKit

/-- There are a company and a state of it. -/
def isPlace (a b : Int) (bs : List Bool) (t : Bool) : Bool := isCo a b && isState (2 * a.toNat) bs t
theorem place_no {a b : Int} {bs : List Bool} {t : Bool} (h : isCo a b = false) : isPlace a b bs t = false := by simp [isPlace, h]
theorem place_on {k : Nat} {b : Int} {bs : List Bool} {t : Bool} (h : isCo k b = true) : isPlace k b bs t = isState (2 * k) bs t := by simp [isPlace, h]
theorem place_co {a b : Int} {bs : List Bool} {t : Bool} (h : isPlace a b bs t = true) : ∃ k : Nat, a = k ∧ 1 ≤ k ∧ k ≤ 4 ∧ 1 ≤ b ∧ b ≤ 4 ∧ isCo k b = true ∧ isState (2 * k) bs t = true ∧ bs.length = 2 * k := by
  simp only [isPlace, Bool.and_eq_true] at h
  have h1 := isCo_iff.1 h.1
  obtain ⟨k, rfl⟩ := Int.eq_ofNat_of_zero_le (show 0 ≤ a by omega)
  rw [Int.toNat_natCast] at h
  refine ⟨k, rfl, by omega, by omega, h1.2.1, h1.2.2, h.1, h.2, ?_⟩
  by_cases hl : bs.length = 2 * k
  · exact hl
  · rw [isState_len hl] at h; cases h.2

/-- What IsCalm hands back. -/
def calmIn (a b : Int) (bs : List Bool) (t : Bool) : Bool := isPlace a b bs t && quiet a.toNat (fun i => bs.getD i false)
theorem calmIn_no {a b : Int} {bs : List Bool} {t : Bool} (h : isPlace a b bs t = false) : calmIn a b bs t = false := by simp [calmIn, h]
theorem calmIn_yes {k : Nat} {b : Int} {bs : List Bool} {t : Bool} (h : isPlace k b bs t = true) : calmIn k b bs t = quiet k (fun i => bs.getD i false) := by simp [calmIn, h]

end Go.Proofs.Ytlpeimlbpiofkaa

namespace Go.Proofs.Ytlpeimlbpiofkaa
open Go.RowKit

theorem index8 (f : Nat → Bool) {k : Nat} (h : k < 8) (w : World) : (Instr.index 71 (.agg #[.bool (f 0), .bool (f 1), .bool (f 2), .bool (f 3), .bool (f 4), .bool (f 5), .bool (f 6), .bool (f 7)]) (.int .i64 k)).run Try.prog w = .ok (.bool (f k)) w :=
  match k, h with
  | 0, _ => by kernel_rfl
  | 1, _ => by kernel_rfl
  | 2, _ => by kernel_rfl
  | 3, _ => by kernel_rfl
  | 4, _ => by kernel_rfl
  | 5, _ => by kernel_rfl
  | 6, _ => by kernel_rfl
  | 7, _ => by kernel_rfl
theorem cells8_one (f : Nat → Bool) : (cells8 f).all (·.oneCell') = true := by simp [cells8, Value.oneCell']
theorem size_crowd8 : (Try.prog.info? 73).map (·.size) = some 8 := by kernel_rfl
theorem cells8_cells {w : World} {g : Nat} {ty : TypeId} {f : Nat → Bool} (h : Whole w g ty (cells8 f)) :
    w.cell? ⟨g, 0, none⟩ = some (.bool (f 0)) ∧ w.cell? ⟨g, 1, none⟩ = some (.bool (f 1)) ∧ w.cell? ⟨g, 2, none⟩ = some (.bool (f 2)) ∧ w.cell? ⟨g, 3, none⟩ = some (.bool (f 3)) ∧
    w.cell? ⟨g, 4, none⟩ = some (.bool (f 4)) ∧ w.cell? ⟨g, 5, none⟩ = some (.bool (f 5)) ∧ w.cell? ⟨g, 6, none⟩ = some (.bool (f 6)) ∧ w.cell? ⟨g, 7, none⟩ = some (.bool (f 7)) :=
  ⟨h.cell 0, h.cell 1, h.cell 2, h.cell 3, h.cell 4, h.cell 5, h.cell 6, h.cell 7⟩

/-- The first k people have been looked at. -/
def withTo (f g : Nat → Bool) (k i : Nat) : Bool := if i < k then f i && !g i else f i
theorem with_zero (f g : Nat → Bool) : withTo f g 0 = f := by funext i; simp [withTo]
theorem with_all (f g : Nat → Bool) : cells8 (withTo f g 8) = cells8 (fun i => f i && !g i) := by simp [cells8, withTo]
theorem with_here (f g : Nat → Bool) (k : Nat) : withTo f g k k = f k := by simp [withTo]
theorem with_set (f g : Nat → Bool) {k : Nat} (h : k < 8) : (cells8 (withTo f g k)).setIfInBounds k (.bool (f k && !g k)) = cells8 (withTo f g (k + 1)) := by
  have h1 : withTo f g (k + 1) k = (f k && !g k) := by simp [withTo]
  have hh : ∀ i, i ≠ k → withTo f g (k + 1) i = withTo f g k i := by
    intro i hi
    unfold withTo
    by_cases h1 : i < k
    · rw [if_pos h1, if_pos (by omega)]
    · rw [if_neg h1, if_neg (by omega)]
  rw [← h1]
  unfold cells8
  match k, h with
  | 0, _ => simp [hh]
  | 1, _ => simp [hh]
  | 2, _ => simp [hh]
  | 3, _ => simp [hh]
  | 4, _ => simp [hh]
  | 5, _ => simp [hh]
  | 6, _ => simp [hh]
  | 7, _ => simp [hh]

set_option maxHeartbeats 3200000 in
theorem without_any (f g : Nat → Bool) (w : World) :
    Calls Try.prog 147 #[.agg (cells8 f), .agg (cells8 g)] w fun e w' => e = .returned (.agg (cells8 (fun i => f i && !g i))) ∧ Below w.heap.size w w' := by
  have h0 := ((Whole.fresh w 73 (cells8 f)).alloc (.cells (cells8 g) 73)).alloc (.cells (cells8 (fun _ => false)) 73)
  have h2 := Whole.fresh ((w.alloc (.cells (cells8 f) 73)).alloc (.cells (cells8 g) 73)) 73 (cells8 (fun _ => false))
  simp only [World.size_alloc] at h2
  have hb := below3 w (.cells (cells8 f) 73) (.cells (cells8 g) 73) (.cells (cells8 (fun _ => false)) 73)
  have H0 := Lib.hid h0
  have HZ := Lib.hid (with_zero f g)
  have H2 := Lib.hid h2
  have HB := Lib.hid hb
  have HEND := Lib.hid (with_all f g)
  clear h0 h2 hb
  unfold cells8
  go_enter Try.func147, Try.ntmps147
  go_wp2
  go_loopw [9] (fun i wr => ∃ k : Nat, k ≤ 8 ∧ i = .int .i64 k ∧ Whole wr w.heap.size 73 (cells8 (withTo f g k)) ∧ Whole wr (w.heap.size + 1 + 1) 73 (cells8 (fun _ => false)) ∧ Below w.heap.size w wr) (fun i _ => 8 - (intOf i).toNat)
  case atStart => exact ⟨0, Nat.zero_le _, rfl, by rw [HZ.out]; exact H0.out, H2.out, HB.out⟩
  case round =>
    obtain ⟨k, hk, rfl, g0, g2, hb⟩ := hrel
    clear H0 H2 HB
    have hl0 := g0.lt
    have hl2 := g2.lt
    by_cases hlt : k < 8
    · have hix := index8 g hlt
      have hkk : (k : Int) < 8 := by omega
      have hcell := (g0.cell k).trans (cells8_at (withTo f g k) hlt)
      rw [with_here] at hcell
      have hfr := g0.open_ k
      have hs := g0.set_ k (.bool (f k && !g k))
      rw [with_set f g hlt] at hs
      have HF := Lib.hid (g2.off (b := w.heap.size) (o := k) (u := .bool (f k && !g k)) (by omega))
      cases hp : f k <;> cases hq : g k
      all_goals
        rw [hq] at hix
        rw [hp] at hcell
        rw [hp, hq] at hs HF
        have HS := Lib.hid hs
        clear hs hp hq
        go_wp2
        go_roundw
        case rel => exact ⟨k + 1, by omega, by go_num, HS.out, HF.out, below_set hb (Nat.le_refl _)⟩
        case measure => simp [intOf]; omega
    · have hk8 : k = 8 := by omega
      subst hk8
      rw [HEND.out] at g0
      go_wp2_with (first | (refine wpList_load_row rfl 73 (.tmp 2) rfl w.heap.size rfl 73 (cells8 (fun i => f i && !g i)) (0, 0) _ g0 Try.underlying73 rfl size_crowd8 ?_) | (refine wpList_store_whole rfl 73 (.tmp 4) (.tmp 25) rfl (w.heap.size + 1 + 1) (cells8 (fun i => f i && !g i)) rfl rfl 73 (cells8 (fun _ => false)) g2 size_crowd8 rfl (cells8_one _) ?_; intro w2 hw2 ho2))
      have hb2 := ho2.below hb (by omega)
      obtain ⟨r0, r1, r2, r3, r4, r5, r6, r7⟩ := cells8_cells hw2
      refine bodyPost_ret (v := .agg (cells8 (fun i => f i && !g i))) (by simp [results, Try.results147, go_sem, r0, r1, r2, r3, r4, r5, r6, r7, cells8]) rfl ⟨rfl, hb2⟩
end Go.Proofs.Ytlpeimlbpiofkaa

namespace Go.Proofs.Ytlpeimlbpiofkaa
open Go.RowKit

/-- The cells of a place. -/
def place9 (f : Nat → Bool) (t : Bool) : Array Value := #[.bool (f 0), .bool (f 1), .bool (f 2), .bool (f 3), .bool (f 4), .bool (f 5), .bool (f 6), .bool (f 7), .bool t]
theorem place_nine9 (bs : List Bool) (t : Bool) : placeCells bs t = place9 (fun i => bs.getD i false) t := rfl
/-- The first n. -/
def firstN (n i : Nat) : Bool := decide (i < n)
theorem trues_at (n i : Nat) : (trues n).getD i false = firstN n i := by
  unfold firstN
  by_cases h : i < n
  · simp [trues, List.getD_eq_getElem?_getD, List.getElem?_replicate, h]
  · simp [trues, List.getD_eq_getElem?_getD, List.getElem?_replicate, h]
theorem place_trues (n : Nat) (t : Bool) : placeCells (trues n) t = place9 (firstN n) t := by
  simp only [placeCells, place9, trues_at]
/-- The eight cells of a crowd. -/
def Row8 (g : Nat) (f : Nat → Bool) (w : World) : Prop :=
  w.cell? ⟨g, 0, none⟩ = some (.bool (f 0)) ∧ w.cell? ⟨g, 1, none⟩ = some (.bool (f 1)) ∧ w.cell? ⟨g, 2, none⟩ = some (.bool (f 2)) ∧ w.cell? ⟨g, 3, none⟩ = some (.bool (f 3)) ∧
  w.cell? ⟨g, 4, none⟩ = some (.bool (f 4)) ∧ w.cell? ⟨g, 5, none⟩ = some (.bool (f 5)) ∧ w.cell? ⟨g, 6, none⟩ = some (.bool (f 6)) ∧ w.cell? ⟨g, 7, none⟩ = some (.bool (f 7))
theorem row8_of {w : World} {g : Nat} {ty : TypeId} {f : Nat → Bool} {t : Bool} (h : Whole w g ty (place9 f t)) : Row8 g f w :=
  ⟨h.cell 0, h.cell 1, h.cell 2, h.cell 3, h.cell 4, h.cell 5, h.cell 6, h.cell 7⟩

theorem calm_out {k : Nat} {f : Nat → Bool} : calm k (fun i => firstN (2 * k) i && !f i) = calm k (fun i => !f i) := calm_congr fun i hi => by simp [firstN, hi]

end Go.Proofs.Ytlpeimlbpiofkaa

namespace Go.Proofs.Ytlpeimlbpiofkaa
open Go.RowKit

/-- What companyPlace hands back. -/
def CPlacePost (a b : Int) (bs : List Bool) (t : Bool) (w : World) (e : Ending) (w' : World) : Prop :=
  ((isPlace a b bs t = true ∧ e = .returned (.tuple #[.agg (placeCells bs t), .bool true])) ∨ (isPlace a b bs t = false ∧ e = .returned (.tuple #[.agg (placeCells [] false), .bool false]))) ∧ Below w.heap.size w w'

/-- What IsCalm reads while it asks. -/
def CIs (g h : Nat) (a b : Int) (f : Nat → Bool) (t : Bool) (w : World) : Prop := Box1 g (.int .i64 a) (.int .i64 b) w ∧ Row8 h f w ∧ w.cell? ⟨h, 8, none⟩ = some (.bool t)
theorem cis_of {w : World} {g h : Nat} {a b : Int} {f : Nat → Bool} {t : Bool} {y z : TypeId} (h1 : Whole w g y #[.int .i64 a, .int .i64 b]) (h2 : Whole w h z (place9 f t)) : CIs g h a b f t w := ⟨box1_of h1, row8_of h2, h2.cell 8⟩

end Go.Proofs.Ytlpeimlbpiofkaa

namespace Go.Proofs.Ytlpeimlbpiofkaa
open Go.RowKit

theorem Whole.cells1 {w : World} {g : Nat} {t : TypeId} {a : Value} (h : Whole w g t #[a]) : w.cell? ⟨g, 0, none⟩ = some a := h.cell 0
theorem Whole.cells2 {w : World} {g : Nat} {t : TypeId} {a b : Value} (h : Whole w g t #[a, b]) : w.cell? ⟨g, 0, none⟩ = some a ∧ w.cell? ⟨g, 1, none⟩ = some b := ⟨h.cell 0, h.cell 1⟩
theorem Whole.cells3 {w : World} {g : Nat} {t : TypeId} {a b c : Value} (h : Whole w g t #[a, b, c]) : w.cell? ⟨g, 0, none⟩ = some a ∧ w.cell? ⟨g, 1, none⟩ = some b ∧ w.cell? ⟨g, 2, none⟩ = some c := ⟨h.cell 0, h.cell 1, h.cell 2⟩
end Go.Proofs.Ytlpeimlbpiofkaa

namespace Go.Proofs.Ytlpeimlbpiofkaa
open Go.RowKit

/-- The first n bits of a number. -/
def bitsOf (m n : Nat) : List Bool := (List.range n).map (bitAt m)
theorem bitsOf_len (m n : Nat) : (bitsOf m n).length = n := by simp [bitsOf]
theorem bitsOf_next (m n : Nat) : bitsOf m (n + 1) = bitsOf m n ++ [bitAt m n] := by simp [bitsOf, List.range_succ]
theorem bit_half (x j : Nat) : bitAt (x / 2) j = bitAt x (j + 1) := by rw [bitAt_def, bitAt_def, Nat.pow_succ', Nat.div_div_eq_div_mul]
theorem shr_bit (x j : Nat) : (((x : Int) / 2 ^ (j + 1)).tmod 2 == 1) = bitAt (x / 2) j := by
  rw [bit_half, shr_nat, Int.tmod_eq_emod_of_nonneg (Int.natCast_nonneg _), bitAt_def]
  generalize x / 2 ^ (j + 1) = y
  by_cases h : y % 2 = 1
  · have : ((y : Int) % 2) = 1 := by omega
    simp [h, this]
  · have : ((y : Int) % 2) ≠ 1 := by omega
    simp [h, this]
theorem odd_bit (x : Nat) : (((x : Int)) % 2 == 1) = bitAt x 0 := by
  rw [bitAt_def]
  by_cases h : x % 2 = 1
  · have : ((x : Int) % 2) = 1 := by omega
    simp [h, this]
  · have : ((x : Int) % 2) ≠ 1 := by omega
    simp [h, this]

end Go.Proofs.Ytlpeimlbpiofkaa

namespace Go.Proofs.Ytlpeimlbpiofkaa
open Go.RowKit

/-- The state with a number is one, and calm. -/
def isIn (k x : Nat) : Bool := quiet k (bitAt (x / 2)) && isState (2 * k) (bitsOf (x / 2) (2 * k)) (bitAt x 0)
/-- How many numbers below x tell such a state. -/
def calmTo (k : Nat) : Nat → Nat
  | 0 => 0
  | x + 1 => calmTo k x + (if isIn k x then 1 else 0)
theorem calmTo_le (k : Nat) : ∀ x, calmTo k x ≤ x
  | 0 => Nat.le_refl _
  | x + 1 => by have := calmTo_le k x; rw [calmTo]; split <;> omega
theorem calmTo_no {k x : Nat} (h : isIn k x = false) : (calmTo k (x + 1) : Int) = calmTo k x := by rw [calmTo, h]; simp
theorem calmTo_yes {k x : Nat} (h : isIn k x = true) : (calmTo k (x + 1) : Int) = calmTo k x + 1 := by rw [calmTo, h]; simp
theorem isIn_no {k x : Nat} (h : quiet k (bitAt (x / 2)) = false) : isIn k x = false := by simp [isIn, h]
theorem isIn_on {k x : Nat} (h : quiet k (bitAt (x / 2)) = true) {b : Bool} (h2 : isState (2 * k) (bitsOf (x / 2) (2 * k)) (bitAt x 0) = b) : isIn k x = b := by rw [isIn, h, h2]; simp
/-- What CountCalm hands back. -/
def calmN (a b : Int) : Int := if isCo a b then (calmTo a.toNat (2 * 2 ^ (2 * a.toNat)) : Nat) else 0
theorem calmN_no {a b : Int} (h : isCo a b = false) : calmN a b = 0 := by simp [calmN, h]
theorem calmN_yes {k : Nat} {b : Int} (h : isCo k b = true) : calmN k b = (calmTo k (2 * 2 ^ (2 * k)) : Nat) := by simp [calmN, h]

end Go.Proofs.Ytlpeimlbpiofkaa

namespace Go.Proofs.Ytlpeimlbpiofkaa
open Go.RowKit

/-- Behind such a statement: the struct lies in block g, its list in blocks from lo on and before hi. -/
def ResMid (ty ety : TypeId) (mk : Option Addr → Nat → Array Value) (xs : List Value) (ok : Bool) (W : World) (v u : Value) (wx : World) : Prop :=
  ∃ (g : Nat) (A : Option Addr) (q lo hi : Nat), v = .pointer (some ⟨g, 0, none⟩) ∧ u = .bool ok ∧ W.heap.size ≤ g ∧ g < wx.heap.size ∧ W.heap.size ≤ lo ∧ (g < lo ∨ hi ≤ g) ∧ hi ≤ wx.heap.size ∧ Whole wx g ty (mk A q) ∧ Fresh wx lo hi ety A xs ∧ Below W.heap.size W wx
theorem ResMid.last {ty ety : TypeId} {mk : Option Addr → Nat → Array Value} {xs : List Value} {ok : Bool} {W w : World} {A : Option Addr} {q lo : Nat} (hc : Below W.heap.size W w) (hl : W.heap.size ≤ lo) (hF : Fresh w lo w.heap.size ety A xs) :
    ResMid ty ety mk xs ok W (.pointer (some ⟨w.heap.size, 0, none⟩)) (.bool ok) (w.alloc (.cells (mk A q) ty)) :=
  ⟨_, A, q, lo, w.heap.size, rfl, rfl, hc.size, by simp, hl, .inr (Nat.le_refl _), by simp, Whole.fresh _ _ _, hF.alloc _, hc.alloc hc.size _⟩
theorem ResMid.first {ty ety : TypeId} {mk : Option Addr → Nat → Array Value} {xs : List Value} {ok : Bool} {W w : World} {A : Option Addr} {q lo g : Nat} {a b c d : Value} (hc : Below W.heap.size W w) (hl : W.heap.size ≤ lo) (hF : Fresh w lo w.heap.size ety A xs) (hg : W.heap.size ≤ g) (hgl : g < lo) (hw : Whole w g ty #[a, b]) (hm : mk A q = #[c, d]) :
    ResMid ty ety mk xs ok W (.pointer (some ⟨g, 0, none⟩)) (.bool ok) ((w.setCell ⟨g, 0, none⟩ c).setCell ⟨g, 1, none⟩ d) := by
  have h := hw.lt
  refine ⟨g, A, q, lo, w.heap.size, rfl, rfl, hg, by simpa [World.setCell] using h, hl, .inl hgl, by simp [World.setCell], ?_, (hF.set_out (.inl hgl)).set_out (.inl hgl), below_set (below_set hc hg) hg⟩
  rw [hm]
  exact (hw.set_ 0 c).set_ 1 d
end Go.Proofs.Ytlpeimlbpiofkaa

namespace Go.Proofs.Ytlpeimlbpiofkaa
open Go.RowKit

/-- What a call hands back that makes a list of numbers. -/
def NumsPost (bs : List Int) (w : World) (e : Ending) (w' : World) : Prop :=
  ∃ (A : Option Addr) (c : Nat), e = .returned (.slice A bs.length c) ∧ Fresh w' w.heap.size w'.heap.size 3 A (nums bs) ∧ Below w.heap.size w w'
/-- What a call hands back that makes a party and tells whether it did. -/
def PartyPost (xs : List Int) (s : Int) (ok : Bool) (w : World) (e : Ending) (w' : World) : Prop :=
  ∃ (A : Option Addr) (c : Nat), e = .returned (.tuple #[.agg #[.slice A xs.length c, .int .i64 s], .bool ok]) ∧ Fresh w' w.heap.size w'.heap.size 3 A (nums xs) ∧ Below w.heap.size w w'

theorem nums_one (bs : List Int) : ∀ u ∈ nums bs, u.oneCell' = true := by
  intro v hv
  simp only [nums, List.mem_map] at hv
  obtain ⟨x, -, rfl⟩ := hv
  rfl

set_option maxHeartbeats 800000 in
set_option maxRecDepth 100000 in
theorem cloneI_any (b o n d : Nat) (bs : List Int) (w : World) (hB : ∀ j u, (nums bs)[j]? = some u → w.cell? ⟨b, o + j, none⟩ = some u) (hy : bs.length = n) (hn : n ≤ 1048576) :
    Calls Try.prog 139 #[.slice (some ⟨b, o, none⟩) n d] w (NumsPost bs w) := by
  subst hy
  obtain ⟨i0, hi, hz0, hz1, hz2⟩ := info_parts info_int
  have HI := Lib.hid hi
  have HZ0 := Lib.hid hz0
  have HZ1 := Lib.hid hz1
  have HZ2 := Lib.hid hz2
  have HB := Lib.hid hB
  clear hi hz0 hz1 hz2 hB
  go_enter Try.func139, Try.ntmps139
  have hnil := fun (W : World) => Lib.run_eql_slice_nil (P := Try.prog) W 22 3 (some ⟨b, o, none⟩) bs.length d 0 0 Try.underlying22
  have HOWN := Lib.hid (World.ownsRow_made (base := w.heap.size) (e := 3) (size := 1) w #[] 0 (Nat.le_refl _) (by unfold maxLen; omega) rfl)
  have hnews : ∀ j u, (nums bs)[j]? = some u → (w.alloc (.cells #[] 3)).cell? ((⟨b, o, none⟩ : Addr).add j) = some u := fun j u hu => by
    rw [show (⟨b, o, none⟩ : Addr).add j = ⟨b, o + j, none⟩ from by unfold Addr.add; split <;> simp_all]
    have h := HB.out j u hu
    rw [World.cell?_alloc_lt _ _ _ (block_lt_of_cell h)]
    exact h
  have HNEWS := Lib.hid hnews
  have HLEN := Lib.hid (show (nums bs).length = bs.length * 1 by rw [nums_len, Nat.mul_one])
  have HONE := Lib.hid (nums_one bs)
  have HMAX := Lib.hid (show 0 + bs.length ≤ maxLen by unfold maxLen; omega)
  have HBYT := Lib.hid (show (0 + bs.length) * 8 ≤ 140737488355328 by omega)
  clear hnews
  go_wp2_with (at_builtin; refine wpList_append_own _ rfl (.tmp 5) (.tmp 6) 22 rfl w.heap.size 3 i0 (.int .i64 0) 1 8 Try.underlying22 HI.out HZ0.out HZ1.out HZ2.out rfl (by decide) _ 0 [] rfl HOWN.out ⟨b, o, none⟩ bs.length d (nums bs) rfl HLEN.out HNEWS.out HONE.out HMAX.out HBYT.out (by simp) ?_; intro v' w1 hown1 hg1 _)
  go_ret
  simp only [Nat.zero_add, List.nil_append] at hown1
  obtain ⟨A, c, hv, hf⟩ := Fresh.of_own hown1 (Nat.le_refl _)
  refine ⟨A, c, by rw [← hv]; rfl, hf, ?_⟩
  exact (below1 w _).grown hg1 (by simp) (fun k hk => Nat.le_of_eq (Option.some.inj (show some w.heap.size = some k from hk)))

/-- The times, each so many times as great. -/
def times (xs : List Int) (k : Int) : List Int := xs.map (· * k)
theorem times_len (xs : List Int) (k : Int) : (times xs k).length = xs.length := by simp [times]
def slowOk (xs : List Int) (s k : Int) : Bool := isParty xs s && (within k 1 1000 && isParty (times xs k) s)
def slowXs (xs : List Int) (s k : Int) : List Int := if slowOk xs s k then times xs k else []
def slowSeats (xs : List Int) (s k : Int) : Int := if slowOk xs s k then s else 0
theorem slow_of {xs : List Int} {s k : Int} {x : Bool} (h1 : isParty xs s = true) (h2 : within k 1 1000 = true) (h3 : isParty (times xs k) s = x) : slowOk xs s k = x := by simp [slowOk, h1, h2, h3]
theorem slowXs_le (xs : List Int) (s k : Int) : (slowXs xs s k).length ≤ xs.length := by
  rw [slowXs]
  split
  · rw [times_len]; exact Nat.le_refl _
  · simp
theorem slow_no {xs : List Int} {s k : Int} (h : slowOk xs s k = false) : slowXs xs s k = [] ∧ slowSeats xs s k = 0 := by simp [slowXs, slowSeats, h]
theorem slow_yes {xs : List Int} {s k : Int} (h : slowOk xs s k = true) : slowXs xs s k = times xs k ∧ slowSeats xs s k = s := by simp [slowXs, slowSeats, h]
theorem party_all {xs : List Int} {s : Int} (h : isParty xs s = true) : ∀ x ∈ xs, 1 ≤ x ∧ x ≤ 1000 := by
  simp only [isParty, Bool.and_eq_true] at h
  exact (allIn_iff _ _ _).1 h.2.1
theorem times_next {xs : List Int} {k : Int} {j : Nat} (hj : j < xs.length) : nums (times (xs.take j) k) ++ [.int .i64 (xs[j] * k)] = nums (times (xs.take (j + 1)) k) := by
  rw [List.take_succ_eq_append_getElem hj]
  simp only [nums, times, List.map_append, List.map_cons, List.map_nil]
theorem slow_iff {xs : List Int} {s k : Int} (hp : isParty xs s = true) (hk : 1 ≤ k) : slowOk xs s k = decide (mostOf xs ≤ 1000 / k) := by
  have hall := party_all hp
  have hne : xs ≠ [] := by
    rintro rfl
    simp [isParty, within] at hp
  have hd : ∀ x : Int, x ≤ 1000 / k ↔ x * k ≤ 1000 := fun x => Int.le_ediv_iff_mul_le (by omega)
  rw [Bool.eq_iff_iff, decide_eq_true_eq, mostOf_le hne]
  simp only [slowOk, hp, Bool.true_and, Bool.and_eq_true]
  constructor
  · rintro ⟨-, h⟩ x hx
    have := party_all h (x * k) (List.mem_map_of_mem hx)
    exact (hd x).2 this.2
  · intro h
    have hk2 : k ≤ 1000 := by
      obtain ⟨y, hy⟩ := List.exists_mem_of_ne_nil _ hne
      have h1 := (hd y).1 (h y hy)
      have h2 := (hall y hy).1
      have h3 : 1 * k ≤ y * k := Int.mul_le_mul_of_nonneg_right h2 (by omega)
      omega
    refine ⟨within_yes hk hk2, ?_⟩
    simp only [isParty, Bool.and_eq_true] at hp ⊢
    refine ⟨by rw [times_len]; exact hp.1, (allIn_iff _ _ _).2 fun y hy => ?_, hp.2.2⟩
    simp only [times, List.mem_map] at hy
    obtain ⟨x, hx, rfl⟩ := hy
    have h1 := (hd x).1 (h x hx)
    have h2 := (hall x hx).1
    have h3 : 1 * 1 ≤ x * k := Int.mul_le_mul h2 hk (by omega) (by omega)
    exact ⟨by omega, h1⟩

end Go.Proofs.Ytlpeimlbpiofkaa

namespace Go.Proofs.Ytlpeimlbpiofkaa
open Go.RowKit

/-- append onto a list of the call's own, as a step of a region that draws its order; nothing may be appended too. -/
theorem step_append_mine {P : Program} {ops : Array Oper} {o : Oper} {a : Act} {w : World} {K : Act → World → Prop} {Q : Exit → Act → World → Prop} {E : Prop}
    (hg : o.guard = none) (s x : Operand) (t : TypeId) (hop : o.op = Op.call { callee := Callee.builtin Builtin.append, args := #[s, x], argTypes := #[t, t] })
    (base : Nat) (e : TypeId) (i : TypeInfo) (z : Value) (size bytes : Nat) (h1 : P.underlying t = some (.slice e)) (h2 : P.info? e = some i) (h3 : i.zero = some z) (h4 : i.size = size) (h5 : i.bytes = bytes) (h6 : z.cells.size = size) (h7 : 0 < size)
    (v : Value) (n : Nat) (xs : List Value) (hs : a.eval s = v) (hown : w.ownsRow base e size v n xs)
    (ad : Addr) (m c : Nat) (news : List Value) (hx : a.eval x = .slice (some ad) m c) (hn : news.length = m * size) (hc : ∀ j u, news[j]? = some u → w.cell? (ad.add j) = some u) (h1c : ∀ u ∈ news, u.oneCell' = true)
    (b1 : n + m ≤ maxLen) (b2 : (n + m) * bytes ≤ 140737488355328) (b3 : base ≤ w.heap.size)
    (hK : ∀ v' w', w'.ownsRow base e size v' (n + m) (xs ++ news) → w.grownBy w' v.ownBlock → K (a.put o.dst v') w') :
    if Region.wanted o (yielded ops a.tmps) = true then Oper.wp P o a w K Q else E := by
  have hw : Region.wanted o (yielded ops a.tmps) = true := by simp [Region.wanted, hg]
  rw [if_pos hw]
  obtain ⟨v', w', hrun, r1, r2, _⟩ := run_append_own (P := P) w base t o.type e i z size bytes h1 h2 h3 h4 h5 h6 h7 v n xs hown ad m c news hn hc h1c b1 b2 b3
  unfold Oper.wp
  simp [execOp, hop, resolve, invoke, builtin, hs, hx, hrun, Result.andThen]
  exact hK v' w' r1 r2

/-- Whether there is a party without that person. -/
def dropOk (xs : List Int) (s k : Int) : Bool := isParty xs s && (within k 0 (xs.length - 1) && !decide ((xs.length : Int) = 1))
/-- The times without that person's. -/
def lessOne (xs : List Int) (k : Nat) : List Int := xs.take k ++ xs.drop (k + 1)
def dropXs (xs : List Int) (s k : Int) : List Int := if dropOk xs s k then lessOne xs k.toNat else []
def dropSeats (xs : List Int) (s k : Int) : Int := if dropOk xs s k then s else 0
theorem lessOne_le (xs : List Int) (k : Nat) : (lessOne xs k).length ≤ xs.length := by
  simp only [lessOne, List.length_append, List.length_take, List.length_drop]
  omega
theorem dropXs_le (xs : List Int) (s k : Int) : (dropXs xs s k).length ≤ xs.length := by
  rw [dropXs]
  split
  · exact lessOne_le _ _
  · simp
theorem drop_no {xs : List Int} {s k : Int} (h : dropOk xs s k = false) : dropXs xs s k = [] ∧ dropSeats xs s k = 0 := by simp [dropXs, dropSeats, h]
theorem drop_yes {xs : List Int} {s k : Int} (h : dropOk xs s k = true) : dropXs xs s k = lessOne xs k.toNat ∧ dropSeats xs s k = s := by simp [dropXs, dropSeats, h]
/-- Where the list behind a place lies: at the list's own address where no room is left behind that place. -/
theorem tail_at {w : World} {b o n c k : Nat} {xs : List Int} (hc : ∀ j u, (nums xs)[j]? = some u → w.cell? ⟨b, o + j, none⟩ = some u) (hx : xs.length = n) (hn : n ≤ c) :
    ∃ d, (if c = k + 1 then some (⟨b, o, none⟩ : Addr) else some ⟨b, o + (k + 1), none⟩) = some ⟨b, d, none⟩ ∧ Hid (∀ j u, (nums (xs.drop (k + 1)))[j]? = some u → w.cell? ⟨b, d + j, none⟩ = some u) := by
  by_cases h : c = k + 1
  · refine ⟨o, by simp [h], fun j u hu => ?_⟩
    have h0 : xs.drop (k + 1) = [] := List.drop_eq_nil_of_le (by omega)
    rw [h0] at hu
    simp [nums] at hu
  · refine ⟨o + (k + 1), by simp [h], fun j u hu => ?_⟩
    have := hc (k + 1 + j) u (by simpa [nums, List.getElem?_map, List.getElem?_drop] using hu)
    rw [show o + (k + 1) + j = o + (k + 1 + j) by omega]
    exact this
theorem head_at {w : World} {b o k : Nat} {xs : List Int} (hb : b < w.heap.size) (hc : ∀ j u, (nums xs)[j]? = some u → w.cell? ⟨b, o + j, none⟩ = some u) : Holds w (some ⟨b, o, none⟩) (nums (xs.take k)) := by
  refine .inr ⟨b, o, rfl, hb, fun j u hu => hc j u ?_⟩
  simp only [nums, List.getElem?_map, List.getElem?_take] at hu ⊢
  split at hu
  · exact hu
  · simp at hu

theorem dropOk_iff {xs : List Int} {s k : Int} : dropOk xs s k = true ↔ isParty xs s = true ∧ 0 ≤ k ∧ k < xs.length ∧ 2 ≤ xs.length := by
  simp only [dropOk, Bool.and_eq_true, Bool.not_eq_true', decide_eq_false_iff_not, within_iff]
  constructor
  · rintro ⟨h, h1, h2⟩
    exact ⟨h, by omega, by omega, by omega⟩
  · rintro ⟨h, h1, h2, h3⟩
    exact ⟨h, by omega, by omega⟩
end Go.Proofs.Ytlpeimlbpiofkaa

namespace Go.Proofs.Ytlpeimlbpiofkaa
open Go.RowKit

/-- The rising lists of at most m that begin with b and go on with some of the others, at least one of them; each ahead of those that it begins. -/
def subs (m : Nat) : List Int → List Int → List (List Int)
  | [], _ => []
  | k :: r, b => if m ≤ b.length then [] else ((b ++ [k]) :: subs m r (b ++ [k])) ++ subs m r b
theorem subs_full {m : Nat} {b : List Int} (h : m ≤ b.length) : ∀ o : List Int, subs m o b = []
  | [] => rfl
  | _ :: _ => if_pos h
theorem subs_next {m : Nat} {b o : List Int} {i : Nat} (hi : i < o.length) (h : b.length < m) : subs m (o.drop i) b = ((b ++ [o[i]]) :: subs m (o.drop (i + 1)) (b ++ [o[i]])) ++ subs m (o.drop (i + 1)) b := by
  rw [List.drop_eq_getElem_cons hi, subs, if_neg (by omega)]
theorem subs_len (m : Nat) : ∀ (o b : List Int), (subs m o b).length + 1 ≤ 2 ^ o.length
  | [], _ => by simp [subs]
  | k :: r, b => by
    have h1 := subs_len m r (b ++ [k])
    have h2 := subs_len m r b
    rw [subs, List.length_cons, Nat.pow_succ]
    split
    · have : 0 < 2 ^ r.length := Nat.pos_of_ne_zero (by simp)
      simp
      omega
    · simp only [List.length_append, List.length_cons]
      omega
theorem subs_small {m : Nat} {o b : List Int} (h : o.length ≤ 8) : (subs m o b).length ≤ 255 := by
  have h1 := subs_len m o b
  have h2 : 2 ^ o.length ≤ 2 ^ 8 := Nat.pow_le_pow_right (by omega) h
  omega

theorem subs_mem (m : Nat) : ∀ (o b l : List Int), l ∈ subs m o b ↔ ∃ c, l = b ++ c ∧ c ≠ [] ∧ c.Sublist o ∧ l.length ≤ m := by
  intro o
  induction o with
  | nil =>
    intro b l
    constructor
    · intro h
      simp [subs] at h
    · rintro ⟨c, -, hne, hs, -⟩
      exact absurd (List.sublist_nil.1 hs) hne
  | cons k r ih =>
    intro b l
    rw [subs]
    by_cases hm : m ≤ b.length
    · rw [if_pos hm]
      constructor
      · intro h
        simp at h
      · rintro ⟨c, rfl, hne, -, hl⟩
        have : 0 < c.length := List.length_pos_iff.2 hne
        rw [List.length_append] at hl
        omega
    · rw [if_neg hm, List.mem_append, List.mem_cons, ih, ih]
      constructor
      · rintro ((rfl | ⟨c, rfl, hne, hs, hl⟩) | ⟨c, rfl, hne, hs, hl⟩)
        · refine ⟨[k], rfl, by simp, ?_, by simp; omega⟩
          exact (List.nil_sublist r).cons_cons k
        · refine ⟨k :: c, by simp, by simp, hs.cons_cons k, hl⟩
        · exact ⟨c, rfl, hne, hs.cons k, hl⟩
      · rintro ⟨c, rfl, hne, hs, hl⟩
        cases hs with
        | cons _ h => exact .inr ⟨c, rfl, hne, h, hl⟩
        | cons_cons _ h =>
          rename_i c'
          by_cases hc : c' = []
          · subst hc
            exact .inl (.inl rfl)
          · exact .inl (.inr ⟨c', by simp, hc, h, hl⟩)

theorem FreeRows.grown {w w' : World} {ps : List (Nat × Nat)} {rs : List RowV} {row : Option Nat} (h : FreeRows w ps rs) (hg : w.grownBy w' row) (hd : ∀ g, row = some g → ∀ p ∈ ps, g < p.1 ∨ p.2 ≤ g) : FreeRows w' ps rs :=
  ⟨h.1, fun k r p hr hp => ⟨fresh_grown (h.2.1 k r p hr hp).1 hg (fun g e => hd g e p (List.mem_of_getElem? hp)), (h.2.1 k r p hr hp).2⟩, h.2.2⟩
theorem FreeRows.join {w : World} {ps qs : List (Nat × Nat)} {rs ss : List RowV} (h : FreeRows w ps rs) (h' : FreeRows w qs ss) (hd : ∀ p ∈ ps, ∀ q ∈ qs, p.2 ≤ q.1) : FreeRows w (ps ++ qs) (rs ++ ss) := by
  obtain ⟨a1, a2, a3⟩ := h
  obtain ⟨b1, b2, b3⟩ := h'
  refine ⟨by simp [a1, b1], fun k r p hr hp => ?_, fun i j p p' hij hp hp' => ?_⟩
  · rcases Nat.lt_or_ge k rs.length with hk | hk
    · rw [List.getElem?_append_left hk] at hr
      rw [List.getElem?_append_left (by omega)] at hp
      exact a2 k r p hr hp
    · rw [List.getElem?_append_right hk] at hr
      rw [List.getElem?_append_right (by omega), a1] at hp
      exact b2 _ r p hr hp
  · rcases Nat.lt_or_ge i ps.length with hi | hi <;> rcases Nat.lt_or_ge j ps.length with hj | hj
    · rw [List.getElem?_append_left hi] at hp
      rw [List.getElem?_append_left hj] at hp'
      exact a3 i j p p' hij hp hp'
    · rw [List.getElem?_append_left hi] at hp
      rw [List.getElem?_append_right hj] at hp'
      exact .inl (hd p (List.mem_of_getElem? hp) p' (List.mem_of_getElem? hp'))
    · rw [List.getElem?_append_right hi] at hp
      rw [List.getElem?_append_left hj] at hp'
      exact .inr (hd p' (List.mem_of_getElem? hp') p (List.mem_of_getElem? hp))
    · rw [List.getElem?_append_right hi] at hp
      rw [List.getElem?_append_right hj] at hp'
      exact b3 _ _ p p' (by omega) hp hp'
/-- Lists of lists put behind others, both made by the call. -/
theorem Heads.join {w w1 w2 : World} {lo c d cap g : Nat} {A B : Option Addr} {rs ss : List RowV} (h : Heads w lo A c rs) (hlo : lo ≤ w.heap.size) (hb : Below w.heap.size w w1) (h' : Heads w1 w.heap.size B d ss)
    (hown : w2.ownsRow lo 22 1 (.slice (some ⟨g, 0, none⟩) (rs.length + ss.length) cap) (rs.length + ss.length) (rowVals rs ++ rowVals ss)) (hg : w1.grownBy w2 (Value.slice A rs.length c).ownBlock)
    (hat : (Value.slice A rs.length c).ownBlock = some g ∨ g = w1.heap.size) : Heads w2 lo (some ⟨g, 0, none⟩) cap (rs ++ ss) := by
  obtain ⟨h1, ps, h2, h3, h4⟩ := h
  obtain ⟨-, qs, k2, k3, -⟩ := h'
  have hsz := hb.size
  have hsg := hg.size
  have hob : ∀ q, (Value.slice A rs.length c).ownBlock = some q → ∃ a : Addr, A = some a ∧ a.block = q ∧ q < w.heap.size := by
    intro q hq
    cases A with
    | none => simp [Value.ownBlock] at hq
    | some a => exact ⟨a, rfl, by simpa [Value.ownBlock] using hq, (h1.lt q hq).2⟩
  refine ⟨by rw [List.length_append]; show World.ownsRow _ _ _ _ _ _ _; simpa [rowVals] using hown, ps ++ qs, ?_, ?_, ?_⟩
  · refine (FreeRows.join (h2.below hb) k2 fun p hp q hq => ?_).grown hg ?_
    · have := (h3 p hp).2; have := (k3 q hq).1; omega
    · intro q hq p hp
      obtain ⟨a, hA, hq2, hl⟩ := hob q hq
      rcases List.mem_append.1 hp with hp | hp
      · have := h4 a hA p hp; omega
      · have := (k3 p hp).1; omega
  · intro p hp
    rcases List.mem_append.1 hp with hp | hp
    · exact ⟨(h3 p hp).1, by have := (h3 p hp).2; omega⟩
    · exact ⟨by have := (k3 p hp).1; omega, by have := (k3 p hp).2; omega⟩
  · intro a ha p hp
    obtain rfl : (⟨g, 0, none⟩ : Addr) = a := Option.some.inj ha
    show g < p.1 ∨ p.2 ≤ g
    rcases List.mem_append.1 hp with hp | hp
    · rcases hat with hat | hat
      · obtain ⟨a, hA, hq2, -⟩ := hob g hat
        have := h4 a hA p hp
        omega
      · have := (h3 p hp).2
        omega
    · rcases hat with hat | hat
      · obtain ⟨a, hA, hq2, hl⟩ := hob g hat
        have := (k3 p hp).1
        omega
      · have := (k3 p hp).2
        omega
theorem Heads.raise {w : World} {lo lo' c : Nat} {A : Option Addr} {rs : List RowV} (h : Heads w lo A c rs) (hl : lo' ≤ lo) : Heads w lo' A c rs := by
  obtain ⟨h1, ps, h2, h3, h4⟩ := h
  refine ⟨?_, ps, h2, fun p hp => ⟨Nat.le_trans hl (h3 p hp).1, (h3 p hp).2⟩, h4⟩
  obtain ⟨hn, h | ⟨g, cap, cur, hv, hg, r⟩⟩ := h1
  · exact ⟨hn, .inl h⟩
  · exact ⟨hn, .inr ⟨g, cap, cur, hv, Nat.le_trans hl hg, r⟩⟩
/-- What a call hands back that makes a list of lists to which more can be appended. -/
def SubsPost (ls : List (List Int)) (w : World) (e : Ending) (w' : World) : Prop :=
  ∃ (A : Option Addr) (c : Nat) (rs : List RowV), e = .returned (.slice A rs.length c) ∧ rowNums rs = ls ∧ (A = none → rs = [] ∧ c = 0) ∧ (∀ a, A = some a → a = ⟨a.block, 0, none⟩ ∧ 0 < rs.length) ∧ Heads w' w.heap.size A c rs ∧ Below w.heap.size w w'
end Go.Proofs.Ytlpeimlbpiofkaa

namespace Go.Proofs.Ytlpeimlbpiofkaa
open Go.RowKit

/-- slices.Clone of a list, to which more can be appended. -/
def OwnOr (xs : List Int) (w : World) (e : Ending) (w' : World) : Prop :=
  ∃ (A : Option Addr) (c : Nat), e = .returned (.slice A xs.length c) ∧ w'.ownsRow w.heap.size 3 1 (.slice A xs.length c) xs.length (nums xs) ∧ Below w.heap.size w w'

set_option maxHeartbeats 800000 in
set_option maxRecDepth 100000 in
theorem cloneO_any (A : Option Addr) (n d : Nat) (bs : List Int) (w : World) (hB : Holds w A (nums bs)) (hy : bs.length = n) (hn : n ≤ 1048576) (hnil : A = none → n = 0 ∧ d = 0) :
    Calls Try.prog 139 #[.slice A n d] w (OwnOr bs w) := by
  subst hy
  cases A with
  | none =>
    obtain ⟨h0, rfl⟩ := hnil rfl
    obtain rfl := List.length_eq_zero_iff.1 h0
    clear h0
    go_enter Try.func139, Try.ntmps139
    have hnl := fun (W : World) => Lib.run_eql_slice_nil (P := Try.prog) W 22 3 none 0 0 0 0 Try.underlying22
    go_wp2
    go_ret
    exact ⟨none, 0, rfl, World.ownsRow_nil _ _ _ _, Below.refl _ _⟩
  | some ad =>
    obtain ⟨b, o, had⟩ : ∃ b o, (nums bs = [] ∨ ad = ⟨b, o, none⟩) := by
      rcases hB with h | ⟨b, o, h, -, -⟩
      · exact ⟨0, 0, .inl h⟩
      · exact ⟨b, o, .inr (Option.some.inj h)⟩
    obtain ⟨i0, hi, hz0, hz1, hz2⟩ := info_parts info_int
    have HI := Lib.hid hi
    have HZ0 := Lib.hid hz0
    have HZ1 := Lib.hid hz1
    have HZ2 := Lib.hid hz2
    have hnews : ∀ j u, (nums bs)[j]? = some u → (w.alloc (.cells #[] 3)).cell? (ad.add j) = some u := fun j u hu => by
      rcases hB with h | ⟨b, o, h, hb, hcell⟩
      · rw [h] at hu; simp at hu
      · obtain rfl : ad = ⟨b, o, none⟩ := by simpa using h
        rw [show (⟨b, o, none⟩ : Addr).add j = ⟨b, o + j, none⟩ from by unfold Addr.add; split <;> simp_all, World.cell?_alloc_lt _ _ _ hb]
        exact hcell j u hu
    clear hi hz0 hz1 hz2 had hnil
    go_enter Try.func139, Try.ntmps139
    have hnl := fun (W : World) => Lib.run_eql_slice_nil (P := Try.prog) W 22 3 (some ad) bs.length d 0 0 Try.underlying22
    have HOWN := Lib.hid (World.ownsRow_made (base := w.heap.size) (e := 3) (size := 1) w #[] 0 (Nat.le_refl _) (by unfold maxLen; omega) rfl)
    have HNEWS := Lib.hid hnews
    have HLEN := Lib.hid (show (nums bs).length = bs.length * 1 by rw [nums_len, Nat.mul_one])
    have HONE := Lib.hid (ints_one bs)
    have HMAX := Lib.hid (show 0 + bs.length ≤ maxLen by unfold maxLen; omega)
    have HBYT := Lib.hid (show (0 + bs.length) * 8 ≤ 140737488355328 by omega)
    clear hnews
    go_wp2_with (at_builtin; refine wpList_append_own _ rfl (.tmp 5) (.tmp 6) 22 rfl w.heap.size 3 i0 (.int .i64 0) 1 8 Try.underlying22 HI.out HZ0.out HZ1.out HZ2.out rfl (by decide) _ 0 [] rfl HOWN.out ad bs.length d (nums bs) rfl HLEN.out HNEWS.out HONE.out HMAX.out HBYT.out (by simp) ?_; intro v' w1 hown1 hg1 _)
    go_ret
    simp only [Nat.zero_add, List.nil_append] at hown1
    have hbe := (below1 w (.cells #[] 3)).grown hg1 (by simp) (fun k hk => Nat.le_of_eq (Option.some.inj (show some w.heap.size = some k from hk)))
    obtain ⟨A1, c1, rfl⟩ := own_shape hown1
    exact ⟨A1, c1, rfl, hown1, hbe⟩

/-- Where the list behind a place lies, nil or not: at the list's own address where no room is left behind that place. -/
theorem behind_at {w : World} {A : Option Addr} {n c k : Nat} {xs : List Int} (h : Holds w A (nums xs)) (hx : xs.length = n) (hn : n ≤ c) (hk : k < n) :
    ∃ b o d, A = some ⟨b, o, none⟩ ∧ b < w.heap.size ∧ (if c = k + 1 then some (⟨b, o, none⟩ : Addr) else some ⟨b, o + (k + 1), none⟩) = some ⟨b, d, none⟩ ∧ Holds w (some ⟨b, d, none⟩) (nums (xs.drop (k + 1))) := by
  rcases h with h | ⟨b, o, rfl, hb, hc⟩
  · have := congrArg List.length h
    rw [nums_len, List.length_nil] at this
    omega
  · obtain ⟨d, hd, hh⟩ := tail_at (w := w) (b := b) (o := o) (n := n) (c := c) (k := k) (xs := xs) hc hx hn
    exact ⟨b, o, d, rfl, hb, hd, .inr ⟨b, d, rfl, hb, hh.out⟩⟩

theorem holds_of_own {w : World} {base : Nat} {e : TypeId} {A : Option Addr} {n c : Nat} {xs : List Value} (h : w.ownsRow base e 1 (.slice A n c) n xs) : Holds w A xs := by
  obtain ⟨A', c', hv, hf⟩ := Fresh.of_own h (Nat.le_refl _)
  obtain ⟨rfl, -⟩ : A = A' ∧ c = c' := by simpa using hv
  exact hf.holds

theorem rowVals_one (rs : List RowV) : ∀ u ∈ rowVals rs, u.oneCell' = true := by
  intro v hv
  simp only [rowVals, List.mem_map] at hv
  obtain ⟨x, -, rfl⟩ := hv
  rfl
theorem own_fresh0' {w : World} {lo n c : Nat} {ty : TypeId} {A : Option Addr} {xs : List Value} (h : w.ownsRow lo ty 1 (.slice A n c) n xs) : Fresh w lo w.heap.size ty A xs := by
  obtain ⟨A', c', hv, hf⟩ := Fresh.of_own h (Nat.le_refl _)
  obtain ⟨rfl, -⟩ : A = A' ∧ c = c' := by simpa using hv
  exact hf

set_option maxHeartbeats 6400000 in
set_option maxRecDepth 100000 in
theorem listsFrom_any (m : Nat) (hm : m ≤ 8) : ∀ (g : Nat) (A B : Option Addr) (k z n c : Nat) (bs os : List Int) (w : World), os.length < g → g ≤ 9 → Holds w A (nums bs) → Holds w B (nums os) → bs.length = k → os.length = n → n ≤ c → (A = none → k = 0 ∧ z = 0) →
    Calls Try.prog 151 #[.slice A k z, .slice B n c, .int .i64 m] w (SubsPost (subs m os bs) w) := by
  intro g
  induction g with
  | zero => intro A B k z n c bs os w hg; omega
  | succ g ih =>
    intro A B k z n c bs os w hg hg8 hA hB hk hn hc hnil
    by_cases hfull : m ≤ k
    · have HS := Lib.hid (subs_full (by omega : m ≤ bs.length) os)
      have hge : (m : Int) ≤ (k : Int) := by omega
      clear ih hg hk hn hnil
      go_enter Try.func151, Try.ntmps151
      go_wp2
      go_ret
      rw [HS.out]
      exact ⟨none, 0, [], rfl, rfl, fun _ => ⟨rfl, rfl⟩, fun a h => (by cases h), Heads.nil _ _, Below.refl _ _⟩
    · obtain ⟨i0, hi, hz0, hz1, hz2⟩ := info_parts info_int
      have HI := Lib.hid hi
      have HZ0 := Lib.hid hz0
      have HZ1 := Lib.hid hz1
      have HZ2 := Lib.hid hz2
      obtain ⟨i1, ri, rz0, rz1, rz2⟩ := info_parts info_row
      have RI := Lib.hid ri
      have RZ0 := Lib.hid rz0
      have RZ1 := Lib.hid rz1
      have RZ2 := Lib.hid rz2
      have HK := Lib.hid hk
      have HN := Lib.hid hn
      have HG := Lib.hid hg
      have HNIL := Lib.hid hnil
      have HFU := Lib.hid hfull
      have hk8 : k ≤ 8 := by omega
      have hfd : decide (m ≤ k) = false := by simpa using hfull
      have hn8 : n ≤ 8 := by omega
      clear hi hz0 hz1 hz2 ri rz0 rz1 rz2 hk hn hg hnil hfull
      go_enter Try.func151, Try.ntmps151
      go_wp2
      go_loopw [7, 17] (fun v i wr => ∃ (j : Nat) (E : Option Addr) (d : Nat) (acc : List RowV), j ≤ n ∧ i = .int .i64 j ∧ v = .slice E acc.length d ∧ rowNums acc ++ subs m (os.drop j) bs = subs m os bs ∧ (E = none → acc = [] ∧ d = 0) ∧ (∀ a, E = some a → a = ⟨a.block, 0, none⟩ ∧ 0 < acc.length) ∧ Heads wr w.heap.size E d acc ∧ Below w.heap.size w wr) (fun _ i _ => n - (intOf i).toNat)
      case atStart => exact ⟨0, none, 0, [], Nat.zero_le _, rfl, rfl, rfl, fun _ => ⟨rfl, rfl⟩, fun a h => (by cases h), Heads.nil _ _, Below.refl _ _⟩
      case round =>
        obtain ⟨j, E, d, acc, hj, rfl, rfl, hacc, hEn, hEs, hh, hb⟩ := hrel
        by_cases hjn : j < n
        · have hjl : j < os.length := by have := HN.out; omega
          obtain ⟨b0, o0, d0, rfl, hbl, hd0, hrest⟩ := behind_at hB HN.out hc hjn
          obtain ⟨b1, o1, hab, hbl1, hcell⟩ := (hB.below hb).look (k := j) (by rw [nums_len]; exact hjl)
          obtain ⟨rfl, rfl⟩ : b0 = b1 ∧ o0 = o1 := by simpa using hab
          clear hab hbl1
          simp only [nums, List.getElem_map] at hcell
          have hkb : bs.length < m := by have := HK.out; have := HFU.out; omega
          have HNX : Hid (rowNums acc ++ ((bs ++ [os[j]]) :: subs m (os.drop (j + 1)) (bs ++ [os[j]])) ++ subs m (os.drop (j + 1)) bs = subs m os bs) := by show _ = _; rw [List.append_assoc, ← subs_next hjl hkb]; exact hacc
          have HAL : Hid (acc.length + (1 + (subs m (os.drop (j + 1)) (bs ++ [os[j]])).length) ≤ 255) := by
            have h1 := congrArg List.length HNX.out
            have h2 := subs_small (m := m) (o := os) (b := bs) (by have := HN.out; omega)
            simp only [List.length_append, List.length_cons, rowNums_len] at h1
            show _ ≤ _
            omega
          have HH := Lib.hid hh
          have HB := Lib.hid hb
          have HRE := Lib.hid hrest
          have hbs : w.heap.size ≤ wr.heap.size := hb.size
          have hA1 := hA.below hb
          generalize hx : os[j] = x at hcell HNX HAL
          clear hacc hEn hEs hh hb hrest hx
          go_wp2_with fail
          refine (cloneO_any A k z bs _ hA1 HK.out (by omega) HNIL.out).mono ?_
          rintro e w1 ⟨A1, c1, rfl, hown1, hb1⟩
          rw [HK.out] at hown1 ⊢
          have hs1 : wr.heap.size ≤ w1.heap.size := hb1.size
          have HO1 := Lib.hid (hown1.alloc (.cells #[.int .i64 x] 3))
          have HB1 := Lib.hid hb1
          have HM1 := Lib.hid (show k + 1 ≤ maxLen by unfold maxLen; omega)
          have HY1 := Lib.hid (show (k + 1) * 8 ≤ 140737488355328 by omega)
          have HZ1' := Lib.hid (show wr.heap.size ≤ (w1.alloc (.cells #[.int .i64 x] 3)).heap.size by simp; omega)
          clear hown1 hb1
          go_upto_region 8 with (at_builtin; refine wpList_append_lies _ rfl (.tmp 23) (.tmp 25) 22 rfl wr.heap.size 3 i0 (.int .i64 0) 1 8 Try.underlying22 HI.out HZ0.out HZ1.out HZ2.out rfl (by decide) (.slice A1 k c1) k (nums bs) rfl HO1.out ⟨w1.heap.size, 0, none⟩ 1 1 [.int .i64 x] rfl rfl (cell_one_new _ _ _) (by simp [Value.oneCell']) (by decide) HM1.out HY1.out HZ1'.out (w1.heap.size + 1) (by simp) ?_; intro g2 c2 w2 hown2 hg2 hat2 hlt2)
          have hb2 : Below wr.heap.size wr w2 := (HB1.out.alloc hs1 (.cells #[.int .i64 x] 3)).grown hg2 HZ1'.out (fun kk e => (HO1.out.lt kk e).1)
          have hs2 : wr.heap.size ≤ w2.heap.size := hb2.size
          have HO2 := Lib.hid (own_fresh0' hown2)
          have HB2 := Lib.hid hb2
          have HOE := Lib.hid ((HH.out.below hb2).alloc (.cells #[.slice (some ⟨g2, 0, none⟩) (k + 1) c2] 22)).1
          have HM2 := Lib.hid (show acc.length + 1 ≤ maxLen by have := HAL.out; unfold maxLen; omega)
          have HY2 := Lib.hid (show (acc.length + 1) * 24 ≤ 140737488355328 by have := HAL.out; omega)
          have HZ2' := Lib.hid (show w.heap.size ≤ (w2.alloc (.cells #[.slice (some ⟨g2, 0, none⟩) (k + 1) c2] 22)).heap.size by simp; omega)
          clear hown2 hg2 hat2 hb2
          go_upto_region 9 with (at_builtin; refine wpList_append_lies _ rfl (.tmp 27) (.tmp 29) 32 rfl w.heap.size 22 i1 (.slice none 0 0) 1 24 Try.underlying32 RI.out RZ0.out RZ1.out RZ2.out rfl (by decide) (.slice E acc.length d) acc.length (rowVals acc) rfl HOE.out ⟨w2.heap.size, 0, none⟩ 1 1 [.slice (some ⟨g2, 0, none⟩) (k + 1) c2] rfl rfl (cell_one_new _ _ _) (by simp [Value.oneCell']) (by decide) HM2.out HY2.out HZ2'.out (w2.heap.size + 1) (by simp) ?_; intro g3 c3 w3 hown3 hg3 hat3 hlt3)
          have hF2 := HO2.out
          have hFl : (bs ++ [x]).length = k + 1 := by have := HK.out; simp; omega
          have hnx : nums bs ++ [Value.int .i64 x] = nums (bs ++ [x]) := by simp [nums]
          rw [hnx] at hF2
          have hH3 := Heads.push (r := ⟨some ⟨g2, 0, none⟩, k + 1, c2, bs ++ [x]⟩) HH.out hbs HB2.out hF2 hFl (by show k + 1 ≤ _; omega) hown3 hg3 hat3
          have hb3 : Below w.heap.size w w3 := ((below_then HB.out HB2.out hbs).alloc (by omega) (.cells #[.slice (some ⟨g2, 0, none⟩) (k + 1) c2] 22)).grown hg3 HZ2'.out (fun kk e => (HOE.out.lt kk e).1)
          have hs3 : w2.heap.size + 1 ≤ w3.heap.size := by have := hg3.size; simpa using this
          have hL3 : Holds w3 (some ⟨g2, 0, none⟩) (nums (bs ++ [x])) := (fresh_grown (hF2.alloc (.cells #[.slice (some ⟨g2, 0, none⟩) (k + 1) c2] 22)) hg3 (fun q e => .inl (by have := (HH.out.1.lt q e).2; omega))).holds
          have hR3 : Holds w3 (some ⟨b0, d0, none⟩) (nums (os.drop (j + 1))) := HRE.out.below hb3
          have hdl : (os.drop (j + 1)).length = n - (j + 1) := by have := HN.out; simp; omega
          have hcall := ih (some ⟨g2, 0, none⟩) (some ⟨b0, d0, none⟩) (k + 1) c2 (n - (j + 1)) (c - (j + 1)) (bs ++ [x]) (os.drop (j + 1)) w3 (by have := HG.out; have := HN.out; omega) (by omega) hL3 hR3 hFl hdl (by omega) (fun h => by cases h)
          have HC := Lib.hid hcall
          have HH3 := Lib.hid hH3
          have HB3 := Lib.hid hb3
          have hp0 : (0 : Int) ≤ (j : Int) + 1 := by omega
          have hp1 : (j : Int) + 1 ≤ (n : Int) := by omega
          have hp2 : ((j : Int) + 1).toNat = j + 1 := by omega
          have hbs3 : w.heap.size ≤ w3.heap.size := hb3.size
          clear hF2 hFl hnx hH3 hb3 hown3 hg3 hat3 hlt3 hL3 hR3 hdl hcall ih
          go_wp2_with fail
          refine HC.out.mono ?_
          rintro e w4 ⟨A4, c4, rs4, rfl, hr4, hn4, hs4, hh4, hb4⟩
          have HR4 := Lib.hid hr4
          have HH4 := Lib.hid hh4
          have HB4 := Lib.hid hb4
          have HL4 : Hid (acc.length + (1 + rs4.length) ≤ 255) := by show _ ≤ _; have h1 := HAL.out; have h2 := rowNums_len rs4; rw [hr4] at h2; omega
          have HOA := Lib.hid (HH3.out.below hb4).1
          have hal : (acc ++ [(⟨some ⟨g2, 0, none⟩, k + 1, c2, bs ++ [x]⟩ : RowV)]).length = acc.length + 1 := by simp
          have HAL2 := Lib.hid hal
          have hbs4 : w3.heap.size ≤ w4.heap.size := hb4.size
          have hEnd : rowNums (acc ++ [(⟨some ⟨g2, 0, none⟩, k + 1, c2, bs ++ [x]⟩ : RowV)]) ++ rowNums rs4 ++ subs m (os.drop (j + 1)) bs = subs m os bs := by
            rw [← HNX.out, hr4]
            simp [rowNums]
          have HEND := Lib.hid hEnd
          rw [hal] at HOA
          clear hr4 hh4 hb4 hal hEnd
          cases A4 with
          | none =>
            obtain ⟨rfl, rfl⟩ := hn4 rfl
            clear hn4 hs4
            go_wp2_with (at_builtin; refine wpList_append_own_none rfl (.tmp 31) (.tmp 38) 32 rfl w.heap.size 22 i1 1 Try.underlying32 RI.out _ (acc.length + 1) _ rfl HOA.out rfl ?_)
            go_roundw
            case rel => exact ⟨j + 1, some ⟨g3, 0, none⟩, c3, acc ++ [⟨some ⟨g2, 0, none⟩, k + 1, c2, bs ++ [x]⟩], by omega, by go_num, by rw [HAL2.out], by simpa [rowNums] using HEND.out, fun h => (by cases h), fun a h => by obtain rfl := Option.some.inj h; exact ⟨rfl, by rw [HAL2.out]; omega⟩, HH3.out.below HB4.out, below_then HB3.out HB4.out hbs3⟩
            case measure => simp [intOf]; omega
          | some a4 =>
            obtain ⟨ha4, hpos⟩ := hs4 a4 rfl
            obtain ⟨b4, rfl⟩ : ∃ b4, a4 = ⟨b4, 0, none⟩ := ⟨_, ha4⟩
            have HNW : Hid (∀ j u, (rowVals rs4)[j]? = some u → w4.cell? ((⟨b4, 0, none⟩ : Addr).add j) = some u) := fun j u hu => by
              rw [Addr.add_lit]
              rcases holds_of_own HH4.out.1 with h | ⟨b, o, h, -, hcell⟩
              · rw [h] at hu; simp at hu
              · obtain ⟨rfl, rfl⟩ : b4 = b ∧ 0 = o := by simpa using h
                exact hcell j u hu
            have HLN := Lib.hid (show (rowVals rs4).length = rs4.length * 1 by rw [rowVals_len, Nat.mul_one])
            have HM4 := Lib.hid (show acc.length + 1 + rs4.length ≤ maxLen by have := HL4.out; unfold maxLen; omega)
            have HY4 := Lib.hid (show (acc.length + 1 + rs4.length) * 24 ≤ 140737488355328 by have := HL4.out; omega)
            have HZ4 := Lib.hid (show w.heap.size ≤ w4.heap.size by omega)
            clear hn4 hs4 ha4
            go_wp2_with (at_builtin; refine wpList_append_lies _ rfl (.tmp 31) (.tmp 38) 32 rfl w.heap.size 22 i1 (.slice none 0 0) 1 24 Try.underlying32 RI.out RZ0.out RZ1.out RZ2.out rfl (by decide) (.slice (some ⟨g3, 0, none⟩) (acc.length + 1) c3) (acc.length + 1) _ rfl HOA.out ⟨b4, 0, none⟩ rs4.length c4 (rowVals rs4) rfl HLN.out HNW.out (rowVals_one rs4) hpos HM4.out HY4.out HZ4.out w4.heap.size rfl ?_; intro g5 c5 w5 hown5 hg5 hat5 hlt5)
            rw [← HAL2.out] at hown5 hg5 hat5
            have HJ := Lib.hid (Heads.join HH3.out hbs3 HB4.out HH4.out hown5 hg5 hat5)
            have HB5 := Lib.hid ((below_then HB3.out HB4.out hbs3).grown hg5 HZ4.out (fun kk e => by rw [HAL2.out] at e; exact (HOA.out.lt kk e).1))
            clear hown5 hg5 hat5 hlt5
            go_roundw
            case rel => exact ⟨j + 1, some ⟨g5, 0, none⟩, c5, acc ++ [⟨some ⟨g2, 0, none⟩, k + 1, c2, bs ++ [x]⟩] ++ rs4, by omega, by go_num, by rw [List.length_append, HAL2.out], by rw [show rowNums (acc ++ [⟨some ⟨g2, 0, none⟩, k + 1, c2, bs ++ [x]⟩] ++ rs4) = rowNums (acc ++ [⟨some ⟨g2, 0, none⟩, k + 1, c2, bs ++ [x]⟩]) ++ rowNums rs4 by simp [rowNums]]; exact HEND.out, fun h => (by cases h), fun a h => by obtain rfl := Option.some.inj h; exact ⟨rfl, by rw [List.length_append]; omega⟩, HJ.out, HB5.out⟩
            case measure => simp [intOf]; omega
        · obtain rfl : j = n := by omega
          have HR : Hid (rowNums acc = subs m os bs) := by show _ = _; rw [← hacc, List.drop_eq_nil_of_le (by have := HN.out; omega)]; simp [subs]
          have HH := Lib.hid hh
          have HEN := Lib.hid hEn
          have HES := Lib.hid hEs
          clear hacc hh hEn hEs
          go_wp2
          go_ret
          exact ⟨E, d, acc, rfl, HR.out, HEN.out, HES.out, HH.out, hb⟩
end Go.Proofs.Ytlpeimlbpiofkaa

namespace Go.Proofs.Ytlpeimlbpiofkaa
open Go.RowKit

/-- The people of a crowd before the k-th. -/
def upTo (l : List Int) (k : Nat) : List Int := ((List.range k).filter (fun i => has l i)).map Int.ofNat
theorem upTo_yes {l : List Int} {k : Nat} (h : has l k = true) : upTo l (k + 1) = upTo l k ++ [(k : Int)] := by
  simp [upTo, List.range_succ, List.filter_append, h]
theorem upTo_no {l : List Int} {k : Nat} (h : has l k = false) : upTo l (k + 1) = upTo l k := by
  simp [upTo, List.range_succ, List.filter_append, h]
theorem upTo_len (l : List Int) (k : Nat) : (upTo l k).length ≤ k := by
  have := List.length_filter_le (fun i => has l i) (List.range k)
  simpa [upTo] using this
theorem rise_eq : ∀ {a b : List Int}, a.Pairwise (· < ·) → b.Pairwise (· < ·) → (∀ x, x ∈ a ↔ x ∈ b) → a = b
  | [], [], _, _, _ => rfl
  | [], y :: b, _, _, h => by have := (h y).2 (by simp); simp at this
  | x :: a, [], _, _, h => by have := (h x).1 (by simp); simp at this
  | x :: a, y :: b, ha, hb, h => by
    rw [List.pairwise_cons] at ha hb
    have e : x = y := by
      have h1 := (h x).1 (by simp)
      have h2 := (h y).2 (by simp)
      rcases List.mem_cons.1 h1 with h1 | h1
      · exact h1
      · rcases List.mem_cons.1 h2 with h2 | h2
        · exact h2.symm
        · have := hb.1 _ h1
          have := ha.1 _ h2
          omega
    subst e
    rw [rise_eq ha.2 hb.2 fun z => ?_]
    constructor
    · intro hz
      rcases List.mem_cons.1 ((h z).1 (List.mem_cons_of_mem _ hz)) with e | e
      · have := ha.1 _ hz; omega
      · exact e
    · intro hz
      rcases List.mem_cons.1 ((h z).2 (List.mem_cons_of_mem _ hz)) with e | e
      · have := hb.1 _ hz; omega
      · exact e
theorem steps_lt {l : List Int} {hi : Int} (h : StepsTo l hi l.length) : ∀ (d i : Nat), i + d + 1 < l.length → l.getD i 0 < l.getD (i + d + 1) 0
  | 0, i, hd => by
    have := (h (i + 1) (by omega)).2.2
    rcases this with h | h
    · omega
    · simpa using h
  | d + 1, i, hd => by
    have h1 := steps_lt h d i (by omega)
    have := (h (i + d + 1 + 1) (by omega)).2.2
    rcases this with h | h
    · omega
    · have h2 : l.getD (i + d + 1) 0 < l.getD (i + d + 1 + 1) 0 := by simpa using h
      exact Int.lt_trans h1 h2
theorem steps_pair {l : List Int} {hi : Int} (h : StepsTo l hi l.length) : l.Pairwise (· < ·) := by
  rw [List.pairwise_iff_getElem]
  intro i j hi' hj hij
  have := steps_lt h (j - i - 1) i (by omega)
  rw [show i + (j - i - 1) + 1 = j by omega] at this
  simpa [hi', hj] using this
theorem upTo_all {l : List Int} {hi : Int} (h : StepsTo l hi l.length) (h7 : hi ≤ 7) : upTo l 8 = l := by
  refine rise_eq ?_ (steps_pair h) fun x => ?_
  · refine List.Pairwise.map _ (fun a b hab => ?_) (List.Pairwise.filter _ (List.pairwise_lt_range (n := 8)))
    exact Int.ofNat_lt.2 hab
  · simp only [upTo, List.mem_map, List.mem_filter, List.mem_range]
    constructor
    · rintro ⟨i, ⟨-, hh⟩, rfl⟩
      exact has_iff.1 hh
    · intro hx
      have hm := mem_steps h hx
      obtain ⟨i, rfl⟩ := Int.eq_ofNat_of_zero_le hm.1
      exact ⟨i, ⟨by omega, has_iff.2 hx⟩, rfl⟩

set_option maxHeartbeats 1600000 in
set_option maxRecDepth 100000 in
theorem list_any (l : List Int) (hi : Int) (w : World) (hs : StepsTo l hi l.length) (h7 : hi ≤ 7) :
    Calls Try.prog 72 #[.agg (crowdCells l)] w (OwnPost l w) := by
  obtain ⟨i0, hi0, hz0, hz1, hz2⟩ := info_parts info_int
  have HI := Lib.hid hi0
  have HZ0 := Lib.hid hz0
  have HZ1 := Lib.hid hz1
  have HZ2 := Lib.hid hz2
  have HALL := Lib.hid (upTo_all hs h7)
  have hc := Whole.fresh w 73 (crowdCells l)
  have hbw := below1 w (.cells (crowdCells l) 73)
  have HBW := Lib.hid hbw
  obtain ⟨m0, m1, m2, m3, m4, m5, m6, m7⟩ := crowd_cells hc
  clear hi0 hz0 hz1 hz2 hs h7 hbw
  go_enter Try.func72, Try.ntmps72
  go_wp2
  go_loopw [3, 8] (fun v i wr => ∃ (k : Nat) (E : Option Addr) (d : Nat), k ≤ 8 ∧ i = .int .i64 k ∧ v = .slice E (upTo l k).length d ∧ wr.ownsRow w.heap.size 3 1 (.slice E (upTo l k).length d) (upTo l k).length (nums (upTo l k)) ∧ Below w.heap.size w wr) (fun _ i _ => 8 - (intOf i).toNat)
  case atStart => exact ⟨0, none, 0, by omega, rfl, rfl, World.ownsRow_nil _ _ _ _, HBW.out⟩
  case round =>
    obtain ⟨k, E, d, hk, rfl, rfl, hown, hb⟩ := hrel
    by_cases hlt : k < 8
    · have hix := fun W : World => index_crowd l hlt W
      have hk8 : (k : Int) < 8 := by omega
      have hul := upTo_len l k
      cases hp : has l k
      · have HS := Lib.hid (upTo_no hp)
        have HO := Lib.hid hown
        rw [hp] at hix
        clear hp hown
        go_wp2
        go_roundw
        case rel => exact ⟨k + 1, E, d, by omega, by go_num, by rw [HS.out], by rw [HS.out]; exact HO.out, hb⟩
        case measure => simp [intOf]; omega
      · have HS := Lib.hid (upTo_yes hp)
        have HOW := Lib.hid (hown.alloc (.cells #[.int .i64 k] 3))
        have HB := Lib.hid (hb.alloc hb.size (.cells #[.int .i64 k] 3))
        have HBASE := Lib.hid (show w.heap.size ≤ (wr.alloc (.cells #[.int .i64 k] 3)).heap.size by have := hb.size; simp; omega)
        have HMAX := Lib.hid (show (upTo l k).length + 1 ≤ maxLen by unfold maxLen; omega)
        have HBYT := Lib.hid (show ((upTo l k).length + 1) * 8 ≤ 140737488355328 by omega)
        have HLEN : Hid ((upTo l (k + 1)).length = (upTo l k).length + 1) := by show _ = _; rw [HS.out]; simp
        rw [hp] at hix
        clear hp hown hb
        go_wp2_with (at_builtin; refine wpList_append_own _ rfl (.tmp 13) (.tmp 15) 22 rfl w.heap.size 3 i0 (.int .i64 0) 1 8 Try.underlying22 HI.out HZ0.out HZ1.out HZ2.out rfl (by decide) (.slice E (upTo l k).length d) (upTo l k).length (nums (upTo l k)) rfl HOW.out ⟨wr.heap.size, 0, none⟩ 1 1 [.int .i64 k] rfl rfl (cell_one_new _ _ _) (by simp [Value.oneCell']) HMAX.out HBYT.out HBASE.out ?_; intro v' w2 hown1 hg1 _; obtain ⟨D', q', hv', -⟩ := Fresh.of_own hown1 (Nat.le_refl _); rw [hv'] at hown1 ⊢; clear hv')
        have HBN := Lib.hid (HB.out.grown hg1 HBASE.out (fun kk e => (HOW.out.lt _ e).1))
        have HON := Lib.hid hown1
        clear hg1 hown1
        go_roundw
        case rel => exact ⟨k + 1, D', q', by omega, by go_num, by rw [HLEN.out], by rw [HLEN.out, HS.out, show nums (upTo l k ++ [(k : Int)]) = nums (upTo l k) ++ [.int .i64 k] by simp [nums]]; exact HON.out, HBN.out⟩
        case measure => simp [intOf]; omega
    · obtain rfl : k = 8 := by omega
      rw [HALL.out] at hown
      have HO := Lib.hid hown
      have HL : Hid ((upTo l 8).length = l.length) := by show _ = _; rw [HALL.out]
      clear hown
      go_wp2
      go_ret
      exact ⟨E, d, by rw [HL.out]; rfl, HO.out, hb⟩
end Go.Proofs.Ytlpeimlbpiofkaa
