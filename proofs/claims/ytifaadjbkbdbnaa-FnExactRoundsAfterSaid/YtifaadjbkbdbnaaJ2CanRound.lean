/-
  What is proved: contracts of the first state, as the model and the program make it. Conditions: the party's times are read as they lie.
  What is proved: contracts of the program's state of a place and of its FirstState. Conditions: the party's times are read as they lie; at most eight people.
  What is proved: contracts of the laws' own helpers for lists of lists of numbers: their size, their copy, their comparison. Conditions: the given lists are read as they lie; a copy is of at most 1,048,576 numbers.
  What is proved: contracts of the laws' copy and comparison of lists of lists of numbers. Conditions: the given lists are read as they lie; a copy is of at most 1,048,576 numbers.
  What is proved: contracts of the last state, as the model and the program make it. Conditions: the party's times are read as they lie.
  What is proved: plain facts on trips one after the other: who is where behind them, how many of them can be made. Conditions: none.
  What is proved: contracts of a trip made, by the model (paCross) and by the program (cross). Conditions: the trip is one; at most eight people.
  What is proved: the contract of a trip made by the model. Conditions: the trip is one.
  What is proved: the contract of trips made one after the other by the model. Conditions: the arguments are read as they lie; there is somebody.
  What is proved: contracts of the model's test of groups, of its time of a round, and of its RoundTime. Conditions: the arguments are read as they lie.
  What is proved: two places compared by ==. Conditions: none.
  What is proved: a crowd without the people of another one, as the program makes it. Conditions: none.
  What is proved: contracts of the program's crowds put together (with, addAll), and of its test that groups have nobody in common. Conditions: the crowds lie where they are read.
  What is proved: contracts of the program's camps as sites, and of IsCamp and FirstCamp, as the model and the program make them. Conditions: the arguments are read as they lie.
-/
import Derived.WalkSpells
import Derived.Deep.RegionHeld3
import Derived.Deep.RegionLawGrows
import Derived.Deep.DeepCutAuto
import Derived.Test.YtifaadjbkbdbnaaJ1CanRound
set_option linter.unusedSimpArgs false
set_option linter.unusedVariables false
namespace Go.Proofs.Ytifaadjbkbdbnaa
open Go.RowKit

/-- What a call hands back that makes a list of truth values. -/
def BitsPost (bs : List Bool) (w : World) (e : Ending) (w' : World) : Prop :=
  ∃ (A : Option Addr) (c : Nat), e = .returned (.slice A bs.length c) ∧ Fresh w' w.heap.size w'.heap.size 4 A (bits bs) ∧ Below w.heap.size w w'
/-- What a call hands back that makes a state and tells whether it did. -/
def StatePost (bs : List Bool) (t ok : Bool) (w : World) (e : Ending) (w' : World) : Prop :=
  ∃ (A : Option Addr) (c : Nat), e = .returned (.tuple #[.agg #[.slice A bs.length c, .bool t], .bool ok]) ∧ Fresh w' w.heap.size w'.heap.size 4 A (bits bs) ∧ Below w.heap.size w w'

theorem bits_one (bs : List Bool) : ∀ u ∈ bits bs, u.oneCell' = true := by
  intro v hv
  simp only [bits, List.mem_map] at hv
  obtain ⟨x, -, rfl⟩ := hv
  rfl

set_option maxHeartbeats 800000 in
set_option maxRecDepth 100000 in
theorem cloneB_any (b o n d : Nat) (bs : List Bool) (w : World) (hB : ∀ j u, (bits bs)[j]? = some u → w.cell? ⟨b, o + j, none⟩ = some u) (hy : bs.length = n) (hn : n ≤ 1048576) :
    Calls Try.prog 111 #[.slice (some ⟨b, o, none⟩) n d] w (BitsPost bs w) := by
  subst hy
  obtain ⟨i0, hi, hz0, hz1, hz2⟩ := info_parts info_bool
  have HI := Lib.hid hi
  have HZ0 := Lib.hid hz0
  have HZ1 := Lib.hid hz1
  have HZ2 := Lib.hid hz2
  have HB := Lib.hid hB
  clear hi hz0 hz1 hz2 hB
  go_enter Try.func111, Try.ntmps111
  have hnil := fun (W : World) => Lib.run_eql_slice_nil (P := Try.prog) W 25 4 (some ⟨b, o, none⟩) bs.length d 0 0 Try.underlying25
  have HOWN := Lib.hid (World.ownsRow_made (base := w.heap.size) (e := 4) (size := 1) w #[] 0 (Nat.le_refl _) (by unfold maxLen; omega) rfl)
  have hnews : ∀ j u, (bits bs)[j]? = some u → (w.alloc (.cells #[] 4)).cell? ((⟨b, o, none⟩ : Addr).add j) = some u := fun j u hu => by
    rw [show (⟨b, o, none⟩ : Addr).add j = ⟨b, o + j, none⟩ from by unfold Addr.add; split <;> simp_all]
    have h := HB.out j u hu
    rw [World.cell?_alloc_lt _ _ _ (block_lt_of_cell h)]
    exact h
  have HNEWS := Lib.hid hnews
  have HLEN := Lib.hid (show (bits bs).length = bs.length * 1 by rw [bits_len, Nat.mul_one])
  have HONE := Lib.hid (bits_one bs)
  have HMAX := Lib.hid (show 0 + bs.length ≤ maxLen by unfold maxLen; omega)
  have HBYT := Lib.hid (show (0 + bs.length) * 1 ≤ 140737488355328 by omega)
  clear hnews
  go_wp2_with (at_builtin; refine wpList_append_own _ rfl (.tmp 5) (.tmp 6) 25 rfl w.heap.size 4 i0 (.bool false) 1 1 Try.underlying25 HI.out HZ0.out HZ1.out HZ2.out rfl (by decide) _ 0 [] rfl HOWN.out ⟨b, o, none⟩ bs.length d (bits bs) rfl HLEN.out HNEWS.out HONE.out HMAX.out HBYT.out (by simp) ?_; intro v' w1 hown1 hg1 _)
  go_ret
  simp only [Nat.zero_add, List.nil_append] at hown1
  obtain ⟨A, c, hv, hf⟩ := Fresh.of_own hown1 (Nat.le_refl _)
  refine ⟨A, c, by rw [← hv]; rfl, hf, ?_⟩
  exact (below1 w _).grown hg1 (by simp) (fun k hk => Nat.le_of_eq (Option.some.inj (show some w.heap.size = some k from hk)))

/-- So many people, none over. -/
def falses (n : Nat) : List Bool := List.replicate n false
theorem falses_len (n : Nat) : (falses n).length = n := by simp [falses]

/-- The places of the first state: none where there is no party. -/
def firstBits (xs : List Int) (n : Nat) (s : Int) : List Bool := if isParty xs s then falses n else []
theorem firstBits_le (xs : List Int) (n : Nat) (s : Int) : (firstBits xs n s).length ≤ n := by
  rw [firstBits]
  split
  · rw [falses_len]; exact Nat.le_refl _
  · simp

end Go.Proofs.Ytifaadjbkbdbnaa

namespace Go.Proofs.Ytifaadjbkbdbnaa
open Go.RowKit

/-- What a call hands back that makes a state. -/
def StateRes (bs : List Bool) (t : Bool) (w : World) (e : Ending) (w' : World) : Prop :=
  ∃ (A : Option Addr) (c : Nat), e = .returned (.agg #[.slice A bs.length c, .bool t]) ∧ Fresh w' w.heap.size w'.heap.size 4 A (bits bs) ∧ Below w.heap.size w w'

theorem Fresh.set_out {w : World} {lo hi b o : Nat} {ty : TypeId} {A : Option Addr} {xs : List Value} {u : Value} (hf : Fresh w lo hi ty A xs) (hb : b < lo ∨ hi ≤ b) : Fresh (w.setCell ⟨b, o, none⟩ u) lo hi ty A xs := by
  rcases hf with rfl | ⟨g, cs, hA, h1, h2, hw, h3, h4⟩
  · exact .inl rfl
  · exact .inr ⟨g, cs, hA, h1, h2, hw.off (by omega), h3, h4⟩

theorem elem_eight (W : World) : (sizeOf (Try.prog.elem 90)).run Try.prog W = .ok 1 W := by kernel_rfl
theorem len_eight : Try.prog.arrayLen 90 = 8 := by kernel_rfl
theorem arr_eight : Try.prog.underlying 90 = some (.array (Try.prog.arrayLen 90) (Try.prog.elem 90)) := by kernel_rfl
theorem slice_eight (W : World) (g n : Nat) (h : n ≤ 8) : (Instr.sliceAt 90 (.pointer (some ⟨g, 0, none⟩)) none (some (.int .i64 (n : Int))) none).run Try.prog W = .ok (.slice (some ⟨g, 0, none⟩) n 8) W := by
  rw [run_sliceAt_array_h W 90 _ arr_eight .i64 (n : Int) (by omega) (by rw [len_eight]; omega), elem_eight]
  simp [slicedAt, len_eight, Result.andThen, Addr.add]

theorem falses_get (n i : Nat) : (falses n).getD i false = false := by
  simp only [falses, List.getD_eq_getElem?_getD, List.getElem?_replicate]
  split <;> rfl
theorem place_falses (n : Nat) : placeCells (falses n) false = placeCells [] false := by
  simp only [placeCells, falses_get]
  rfl

end Go.Proofs.Ytifaadjbkbdbnaa

namespace Go.Proofs.Ytifaadjbkbdbnaa
open Go.RowKit

/-- One list among others: where it lies, its length, its room, its numbers. -/
structure RowV where
  A : Option Addr
  n : Nat
  c : Nat
  xs : List Int
def RowV.val (r : RowV) : Value := .slice r.A r.n r.c
def rowVals (rs : List RowV) : List Value := rs.map RowV.val
def rowNums (rs : List RowV) : List (List Int) := rs.map RowV.xs
theorem rowVals_len (rs : List RowV) : (rowVals rs).length = rs.length := by simp [rowVals]
theorem rowNums_len (rs : List RowV) : (rowNums rs).length = rs.length := by simp [rowNums]
def RowOk (w : World) (r : RowV) : Prop := Holds w r.A (nums r.xs) ∧ r.xs.length = r.n ∧ r.n ≤ 9223372036854775807
/-- From A on the world holds these lists. -/
def Grid (w : World) (A : Option Addr) (rs : List RowV) : Prop := Holds w A (rowVals rs) ∧ ∀ r ∈ rs, RowOk w r
theorem RowOk.below {w w' : World} {r : RowV} (h : RowOk w r) (hb : Below w.heap.size w w') : RowOk w' r := ⟨h.1.below hb, h.2⟩
theorem Grid.below {w w' : World} {A : Option Addr} {rs : List RowV} (h : Grid w A rs) (hb : Below w.heap.size w w') : Grid w' A rs := ⟨h.1.below hb, fun r hr => (h.2 r hr).below hb⟩
theorem Grid.alloc {w : World} {A : Option Addr} {rs : List RowV} (h : Grid w A rs) (o : Obj) : Grid (w.alloc o) A rs := h.below (below1 w o)
theorem Grid.drew {w : World} {A : Option Addr} {rs : List RowV} (h : Grid w A rs) : Grid w.drew A rs := h
theorem Grid.look {w : World} {A : Option Addr} {rs : List RowV} (h : Grid w A rs) {k : Nat} (hk : k < rs.length) :
    ∃ b o, A = some ⟨b, o, none⟩ ∧ b < w.heap.size ∧ w.cell? ⟨b, o + k, none⟩ = some (.slice rs[k].A rs[k].n rs[k].c) ∧ RowOk w rs[k] := by
  obtain ⟨b, o, hA, hb, hc⟩ := h.1.look (k := k) (by rw [rowVals_len]; exact hk)
  refine ⟨b, o, hA, hb, ?_, h.2 _ (List.getElem_mem hk)⟩
  rw [hc]
  simp [rowVals, RowV.val]

/-- The lengths of the first k lists together. -/
def part (rs : List RowV) (k : Nat) : Nat := ((rs.take k).map RowV.n).sum
/-- The length and all lengths together. -/
def total (rs : List RowV) : Nat := rs.length + part rs rs.length
theorem part_zero (rs : List RowV) : part rs 0 = 0 := rfl
theorem part_next {rs : List RowV} {k : Nat} (hk : k < rs.length) : part rs (k + 1) = part rs k + rs[k].n := by
  rw [part, part, List.take_succ_eq_append_getElem hk, List.map_append, List.sum_append]
  simp
theorem part_le {rs : List RowV} : ∀ {k : Nat}, k ≤ rs.length → ∀ {j : Nat}, j ≤ k → part rs j ≤ part rs k
  | 0, _, j, hj => by obtain rfl : j = 0 := by omega
                      exact Nat.le_refl _
  | k + 1, hk, j, hj => by
    rcases Nat.lt_or_ge j (k + 1) with h | h
    · have h1 := part_le (rs := rs) (k := k) (by omega) (j := j) (by omega)
      have h2 := part_next (rs := rs) (k := k) (by omega)
      omega
    · obtain rfl : j = k + 1 := by omega
      exact Nat.le_refl _
theorem total_row {rs : List RowV} {k : Nat} (hk : k < rs.length) : rs[k].n ≤ total rs := by
  have h1 := part_next hk
  have h2 := part_le (rs := rs) (Nat.le_refl _) (j := k + 1) (by omega)
  unfold total
  omega
theorem total_len (rs : List RowV) : rs.length ≤ total rs := by unfold total; omega
def totalLeft (rs : List RowV) (l : Int) : Int := if l < (total rs : Int) then -1 else l - (total rs : Int)
theorem totalLeft_no {rs : List RowV} {l : Int} {k : Nat} (hk : k ≤ rs.length) (h : l < (rs.length : Int) + (part rs k : Int)) : totalLeft rs l = -1 := by
  have h2 := part_le (rs := rs) (Nat.le_refl _) (j := k) hk
  rw [totalLeft, if_pos (by unfold total; omega)]
theorem totalLeft_yes {rs : List RowV} {l : Int} (h : (rs.length : Int) + (part rs rs.length : Int) ≤ l) : totalLeft rs l = l - ((rs.length : Int) + (part rs rs.length : Int)) := by
  rw [totalLeft, if_neg (by unfold total; omega)]
  unfold total
  omega

set_option maxHeartbeats 800000 in
theorem szIntSS_any (A : Option Addr) (n c : Nat) (rs : List RowV) (l : Int) (w : World) (hA : Grid w A rs) (hx : rs.length = n) (hn : n ≤ 9223372036854775807) (h0 : 0 ≤ l) (h1 : l ≤ 1048576) :
    Calls Try.prog 48 #[.slice A n c, .int .i64 l] w fun e w' => e = .returned (.int .i64 (totalLeft rs l)) ∧ w = w' := by
  subst hx
  by_cases h : l < rs.length
  · have h' : l - rs.length < 0 := by omega
    have HN := Lib.hid (totalLeft_no (rs := rs) (k := 0) (l := l) (Nat.zero_le _) (by rw [part_zero]; omega))
    go_enter Try.func48, Try.ntmps48
    go_wp2
    go_ret
    exact ⟨ret_of (by rw [HN.out]; rfl), rfl⟩
  · have h' : ¬ l - rs.length < 0 := by omega
    go_enter Try.func48, Try.ntmps48
    go_wp2
    go_loop [1, 5] (fun v i => ∃ (k : Nat) (x : Int), k ≤ rs.length ∧ i = .int .i64 k ∧ v = .int .i64 x ∧ 0 ≤ x ∧ x ≤ 1048576 ∧ x + (rs.length : Int) + (part rs k : Int) = l) (fun _ i => rs.length - (intOf i).toNat)
    case atStart => exact ⟨0, _, Nat.zero_le _, rfl, rfl, by omega, by omega, by rw [part_zero]; omega⟩
    case round =>
      obtain ⟨k, x, hk, rfl, rfl, hx0, hx1, hl⟩ := hrel
      by_cases hlt : k < rs.length
      · obtain ⟨b, o, rfl, hb, hc, hok⟩ := hA.look hlt
        have hp := part_next hlt
        by_cases hs : x < rs[k].n
        · have HN := Lib.hid (totalLeft_no (rs := rs) (k := k + 1) (l := l) (by omega) (by omega))
          clear hl hp h h'
          go_wp2_with (go_at_call 66; refine (szIntS_any _ _ _ _ _ hok.2.2 hx0 hx1).mono ?_; rintro e w' ⟨rfl, rfl⟩; rw [if_pos hs])
          go_ret
          exact ⟨ret_of (by rw [HN.out]; rfl), rfl⟩
        · have hl2 : x - rs[k].n + (rs.length : Int) + (part rs (k + 1) : Int) = l := by omega
          have HL := Lib.hid hl2
          have hx2 : 0 ≤ x - (rs[k].n : Int) := by omega
          have hx3 : x - (rs[k].n : Int) ≤ 1048576 := by omega
          clear hl hp h h' hl2
          go_wp2_with (go_at_call 66; refine (szIntS_any _ _ _ _ _ hok.2.2 hx0 hx1).mono ?_; rintro e w' ⟨rfl, rfl⟩; rw [if_neg hs])
          go_round
          case rel => exact ⟨k + 1, _, by omega, by go_num, rfl, hx2, hx3, HL.out⟩
          case measure => simp [intOf]; omega
      · have hkn : k = rs.length := by omega
        subst hkn
        have HN := Lib.hid (totalLeft_yes (rs := rs) (l := l) (by omega))
        have HV := Lib.hid (show x = l - ((rs.length : Int) + (part rs rs.length : Int)) by omega)
        clear hl h h'
        go_wp2
        go_ret
        exact ⟨ret_of (by rw [HN.out, ← HV.out]; rfl), rfl⟩
end Go.Proofs.Ytifaadjbkbdbnaa

namespace Go.Proofs.Ytifaadjbkbdbnaa
open Go.RowKit

/-- Lists of the call's own, each in blocks behind those of the one before. -/
def OwnRows (w : World) : Nat → Nat → List RowV → Prop
  | lo, hi, [] => lo ≤ hi
  | lo, hi, r :: rs => ∃ mid, lo ≤ mid ∧ Fresh w lo mid 3 r.A (nums r.xs) ∧ r.xs.length = r.n ∧ r.n ≤ 1048576 ∧ OwnRows w mid hi rs
theorem OwnRows.le {w : World} : ∀ {rs : List RowV} {lo hi : Nat}, OwnRows w lo hi rs → lo ≤ hi
  | [], _, _, h => h
  | _ :: _, _, _, ⟨_, h1, _, _, _, h2⟩ => Nat.le_trans h1 h2.le
theorem OwnRows.more {w : World} : ∀ {rs : List RowV} {lo hi hi' : Nat}, OwnRows w lo hi rs → hi ≤ hi' → OwnRows w lo hi' rs
  | [], _, _, _, h, h' => Nat.le_trans h h'
  | _ :: _, _, _, _, ⟨m, h1, hf, hl, hn, h2⟩, h' => ⟨m, h1, hf, hl, hn, h2.more h'⟩
theorem OwnRows.below {w w' : World} (hb : Below w.heap.size w w') : ∀ {rs : List RowV} {lo hi : Nat}, OwnRows w lo hi rs → OwnRows w' lo hi rs
  | [], _, _, h => h
  | _ :: _, _, _, ⟨m, h1, hf, hl, hn, h2⟩ => ⟨m, h1, hf.below hb, hl, hn, h2.below hb⟩
theorem OwnRows.set_out {w : World} {b o : Nat} {u : Value} : ∀ {rs : List RowV} {lo hi : Nat}, OwnRows w lo hi rs → (b < lo ∨ hi ≤ b) → OwnRows (w.setCell ⟨b, o, none⟩ u) lo hi rs
  | [], _, _, h, _ => h
  | _ :: _, _, _, ⟨m, h1, hf, hl, hn, h2⟩, hd => ⟨m, h1, hf.set_out (by have := h2.le; omega), hl, hn, h2.set_out (by omega)⟩
theorem OwnRows.snoc {w : World} {r : RowV} : ∀ {rs : List RowV} {lo mid hi : Nat}, OwnRows w lo mid rs → mid ≤ hi → Fresh w mid hi 3 r.A (nums r.xs) → r.xs.length = r.n → r.n ≤ 1048576 → OwnRows w lo hi (rs ++ [r])
  | [], _, _, hi, h, hm, hf, hl, hn => ⟨hi, Nat.le_trans h hm, hf.more h (Nat.le_refl _), hl, hn, Nat.le_refl _⟩
  | _ :: _, _, _, _, ⟨m, h1, hg, hk, ho, h2⟩, hm, hf, hl, hn => ⟨m, h1, hg, hk, ho, h2.snoc hm hf hl hn⟩
theorem OwnRows.ok {w : World} : ∀ {rs : List RowV} {lo hi : Nat}, OwnRows w lo hi rs → ∀ r ∈ rs, RowOk w r
  | [], _, _, _, _, hr => by cases hr
  | r :: rs, _, _, ⟨_, _, hf, hl, hn, h2⟩, x, hx => by
    rcases List.mem_cons.1 hx with rfl | hx
    · exact ⟨hf.holds, hl, by omega⟩
    · exact h2.ok x hx
/-- Lists of lists of the call's own: block g tells where they lie, the lists are behind it and before hi. -/
def OwnGrid (w : World) (g hi : Nat) (rs : List RowV) : Prop := Whole w g 22 (rowVals rs).toArray ∧ OwnRows w (g + 1) hi rs
theorem OwnGrid.grid {w : World} {g hi : Nat} {rs : List RowV} (h : OwnGrid w g hi rs) : Grid w (some ⟨g, 0, none⟩) rs :=
  ⟨h.1.holds, h.2.ok⟩
theorem OwnGrid.below {w w' : World} {g hi : Nat} {rs : List RowV} (h : OwnGrid w g hi rs) (hb : Below w.heap.size w w') : OwnGrid w' g hi rs := ⟨h.1.below hb, h.2.below hb⟩
theorem OwnGrid.alloc {w : World} {g hi : Nat} {rs : List RowV} (h : OwnGrid w g hi rs) (o : Obj) : OwnGrid (w.alloc o) g hi rs := h.below (below1 w o)
theorem OwnGrid.drew {w : World} {g hi : Nat} {rs : List RowV} (h : OwnGrid w g hi rs) : OwnGrid w.drew g hi rs := h.below ⟨rfl, rfl, rfl, Nat.le_refl _, fun _ _ => rfl⟩

/-- What stands in the copy's block behind k rounds. -/
def filledR (ws : List RowV) (n : Nat) : Array Value := (rowVals ws ++ List.replicate (n - ws.length) (Value.slice none 0 0)).toArray
theorem filledR_done {ws : List RowV} {n : Nat} (h : ws.length = n) : filledR ws n = (rowVals ws).toArray := by simp [filledR, h]
theorem filledR_at {ws : List RowV} {n : Nat} (h : ws.length < n) : (filledR ws n)[ws.length]? = some (.slice none 0 0) := by
  simp only [filledR, List.getElem?_toArray]
  rw [List.getElem?_append_right (by rw [rowVals_len]; omega)]
  simp [rowVals_len, List.getElem?_replicate]
  omega
theorem filledR_next {ws : List RowV} {n : Nat} (r : RowV) (h : ws.length < n) : (filledR ws n).setIfInBounds ws.length r.val = filledR (ws ++ [r]) n := by
  obtain ⟨m, hm⟩ : ∃ m, n - ws.length = m + 1 := ⟨n - ws.length - 1, by omega⟩
  have hm' : n - (ws ++ [r]).length = m := by simp; omega
  unfold filledR
  rw [hm, hm', List.replicate_succ]
  simp only [rowVals, List.map_append, List.map_cons, List.map_nil, List.append_assoc, List.singleton_append]
  rw [List.setIfInBounds_toArray]
  congr 1
  rw [List.set_append_right _ _ (by simp)]
  simp
theorem made_rows (n : Nat) : madeCells (Value.slice none 0 0).cells (n * 1) = (List.replicate n (Value.slice none 0 0)).toArray := by
  apply Array.ext_getElem?
  intro j
  simp [madeCells, Value.cells, Nat.mod_one, Array.getElem?_range]
  by_cases h : j < n <;> simp [h]
theorem info_row : (Try.prog.info? 22).map (fun i => (i.zero, i.size, i.bytes)) = some (some (.slice none 0 0), 1, 24) := by kernel_rfl

/-- What toIntSS hands back. -/
def GridPost (n : Nat) (rs : List RowV) (w : World) (e : Ending) (w' : World) : Prop :=
  ∃ (g : Nat) (ws : List RowV), e = .returned (.slice (some ⟨g, 0, none⟩) n n) ∧ w.heap.size ≤ g ∧ OwnGrid w' g w'.heap.size ws ∧ rowNums ws = rowNums rs ∧ ws.length = n ∧ Below w.heap.size w w'

theorem rowNums_next {ws rs : List RowV} {k : Nat} {r : RowV} (h : rowNums ws = (rowNums rs).take k) (hk : k < rs.length) (hr : r.xs = rs[k].xs) : rowNums (ws ++ [r]) = (rowNums rs).take (k + 1) := by
  rw [List.take_succ_eq_append_getElem (by rw [rowNums_len]; exact hk), ← h]
  simp [rowNums, hr]

set_option maxHeartbeats 800000 in
theorem toIntSS_any (A : Option Addr) (n c : Nat) (rs : List RowV) (w : World) (hA : Grid w A rs) (hx : rs.length = n) (ht : total rs ≤ 1048576) :
    Calls Try.prog 50 #[.slice A n c] w (GridPost n rs w) := by
  have hn : n ≤ 1048576 := by have := total_len rs; omega
  obtain ⟨i0, hi, hz0, hz1, hz2⟩ := info_parts info_row
  have hmk : ∀ W : World, (Instr.makeSlice 30 (.int .i64 (n : Int)) (.int .i64 (n : Int))).run Try.prog W = .ok (.slice (some ⟨W.heap.size, 0, none⟩) n n) (W.alloc (.cells (filledR [] n) 22)) := by
    intro W
    have h := run_make (P := Try.prog) W 30 22 i0 _ Try.underlying30 hi hz0 .i64 .i64 n n (by omega) (by omega) (by rw [hz2]; omega) (by omega)
    simp only [Int.toNat_natCast, hz1, made_rows] at h
    rw [h]
    simp [filledR, rowVals]
  have HX := Lib.hid hx
  clear hi hz0 hz1 hz2 hx
  go_enter Try.func50, Try.ntmps50
  go_wp2
  have h0 := Whole.fresh w 22 (filledR [] n)
  have hb0 : Below w.heap.size w (w.alloc (.cells (filledR [] n) 22)) := (Below.refl _ _).alloc (Nat.le_refl _) _
  go_loopw [4] (fun i wr => ∃ (k : Nat) (ws : List RowV), k ≤ n ∧ i = .int .i64 k ∧ ws.length = k ∧ Whole wr w.heap.size 22 (filledR ws n) ∧ Below w.heap.size w wr ∧ OwnRows wr (w.heap.size + 1) wr.heap.size ws ∧ rowNums ws = (rowNums rs).take k) (fun i _ => n - (intOf i).toNat)
  case atStart => exact ⟨0, [], Nat.zero_le _, rfl, rfl, h0, hb0, by simp [OwnRows], rfl⟩
  case round =>
    obtain ⟨k, ws, hk, rfl, hlen, hw, hb, hown, hnums⟩ := hrel
    clear hmk h0 hb0
    subst hlen
    have HNUM := Lib.hid hnums
    have hwl := hw.lt
    by_cases hlt : ws.length < n
    · have hkr : ws.length < rs.length := by have := HX.out; omega
      obtain ⟨b, o, rfl, hbl, hc, hok⟩ := (hA.below hb).look hkr
      have hsz : rs[ws.length].n ≤ 1048576 := Nat.le_trans (total_row hkr) ht
      clear hnums
      go_wp2_with fail
      refine (toIntS_own _ _ _ rs[ws.length].xs _ hok.1 hok.2.1 hsz).mono ?_
      rintro e w1 ⟨g1, rfl, hg1, hw1, hb1⟩
      have hF := Fresh.of_whole (lo := wr.heap.size) (hi := w1.heap.size) hw1 hg1 hw1.lt
      have hwz : wr.heap.size ≤ w1.heap.size := hb1.size
      have hown1 := (hown.below hb1).snoc (r := ⟨some ⟨g1, 0, none⟩, rs[ws.length].n, rs[ws.length].n, rs[ws.length].xs⟩) hwz hF hok.2.1 hsz
      have hown2 := hown1.set_out (b := w.heap.size) (o := ws.length) (u := .slice (some ⟨g1, 0, none⟩) rs[ws.length].n rs[ws.length].n) (.inl (by omega))
      have hw2 := hw.below hb1
      have hcell : w1.cell? ⟨w.heap.size, ws.length, none⟩ = some (.slice none 0 0) := (hw2.cell _).trans (filledR_at hlt)
      have hfr := hw2.open_ ws.length
      have hnext := hw2.set_ ws.length (.slice (some ⟨g1, 0, none⟩) rs[ws.length].n rs[ws.length].n)
      rw [show (Value.slice (some ⟨g1, 0, none⟩) rs[ws.length].n rs[ws.length].n) = RowV.val ⟨some ⟨g1, 0, none⟩, rs[ws.length].n, rs[ws.length].n, rs[ws.length].xs⟩ from rfl, filledR_next _ hlt] at hnext
      have hbw := below_then hb hb1 hb.size
      have HNX := Lib.hid (rowNums_next (r := ⟨some ⟨g1, 0, none⟩, rs[ws.length].n, rs[ws.length].n, rs[ws.length].xs⟩) HNUM.out hkr rfl)
      have HO := Lib.hid hown2
      have HN := Lib.hid hnext
      clear hown hown1 hown2 hnext hw hw2 hF hb hc hw1 hok
      go_wp2
      go_roundw
      case rel => exact ⟨ws.length + 1, _, by omega, by go_num, by simp, HN.out, hbw.setCell (Nat.le_refl _) _, by simpa [World.setCell] using HO.out, HNX.out⟩
      case measure => simp [intOf]; omega
    · have hkn : ws.length = n := by omega
      rw [filledR_done hkn] at hw
      have HK := Lib.hid hkn
      clear hnums hkn
      go_wp2
      go_ret
      exact ⟨w.heap.size, ws, rfl, Nat.le_refl _, ⟨hw, hown⟩, by rw [HNUM.out, List.take_of_length_le (by rw [rowNums_len, HX.out, HK.out]; exact Nat.le_refl _)], HK.out, hb⟩

/-- Two lists of one reading are the same; nothing but draws. -/
theorem eqIntS_drawn (A B : Option Addr) (n m c d : Nat) (xs ys : List Int) (w : World) (k : Nat) (hA : Holds (w.drewN k) A (nums xs)) (hB : Holds (w.drewN k) B (nums ys)) (hx : xs.length = n) (hy : ys.length = m) (he : xs = ys) (hn : n ≤ 9223372036854775807) :
    Calls Try.prog 75 #[.slice A n c, .slice B m d] (w.drewN k) fun e w'' => e = .returned (.bool true) ∧ ∃ q, w'' = w.drewN q :=
  Calls.quiet_of ((eqIntS_any A B n m c d xs ys _ hA hB hx hy hn (by subst he; omega)).mono fun _ _ ⟨h, q⟩ => ⟨by rw [h, sameInts_yes he], q⟩)

theorem rowNums_at {rs ss : List RowV} (h : rowNums rs = rowNums ss) {k : Nat} (hk : k < rs.length) (hk' : k < ss.length) : rs[k].xs = ss[k].xs := by
  have h1 := congrArg (fun l : List (List Int) => l[k]?) h
  simpa [rowNums, hk, hk'] using h1

set_option maxHeartbeats 800000 in
theorem eqIntSS_yes (A B : Option Addr) (n m c d : Nat) (rs ss : List RowV) (w : World) (hA : Grid w A rs) (hB : Grid w B ss) (he : rowNums rs = rowNums ss) (hx : rs.length = n) (hy : ss.length = m) (hn : n ≤ 9223372036854775807) :
    Calls Try.prog 21 #[.slice A n c, .slice B m d] w fun e w' => e = .returned (.bool true) ∧ Below w.heap.size w w' := by
  have hl : rs.length = ss.length := by rw [← rowNums_len rs, ← rowNums_len ss, he]
  subst hx hy
  have hl' : ((rs.length : Int) != (ss.length : Int)) = false := by simp [hl]
  have HL := Lib.hid hl
  have HE := Lib.hid he
  clear hl he
  go_enter Try.func21, Try.ntmps21
  go_wp2
  go_loopw [5] (fun i wr => ∃ k : Nat, k ≤ rs.length ∧ i = .int .i64 k ∧ Below w.heap.size w wr) (fun i _ => rs.length - (intOf i).toNat)
  case atStart => exact ⟨0, Nat.zero_le _, rfl, Below.refl _ _⟩
  case round =>
    obtain ⟨k, hk, rfl, hb⟩ := hrel
    by_cases hlt : k < rs.length
    · have hlt' : k < ss.length := by have := HL.out; omega
      obtain ⟨b, o, rfl, hbl, hc, hok⟩ := (hA.below hb).look hlt
      obtain ⟨b', o', rfl, hbl', hc', hok'⟩ := (hB.below hb).look hlt'
      have HV := Lib.hid (rowNums_at HE.out hlt hlt')
      go_wp2
      go_quiet ((go_at_call 75; exact eqIntS_drawn _ _ _ _ _ _ rs[k].xs ss[k].xs wr _ (hok.1.below (below_draws (Below.refl _ _) _)) (hok'.1.below (below_draws (Below.refl _ _) _)) hok.2.1 hok'.2.1 HV.out hok.2.2))
      go_wp2
      go_roundw
      case rel => exact ⟨k + 1, by omega, by go_num, below_draws hb _⟩
      case measure => simp [intOf]; omega
    · go_wp2
      go_ret
      exact ⟨rfl, hb⟩
end Go.Proofs.Ytifaadjbkbdbnaa

namespace Go.Proofs.Ytifaadjbkbdbnaa
open Go.RowKit

/-- So many people, all over. -/
def trues (n : Nat) : List Bool := List.replicate n true
theorem trues_len (n : Nat) : (trues n).length = n := by simp [trues]
theorem trues_next (n : Nat) : bits (trues n) ++ [.bool true] = bits (trues (n + 1)) := by
  simp [bits, trues, List.replicate_succ']

/-- The places of the last state: none where there is no party. -/
def lastBits (xs : List Int) (n : Nat) (s : Int) : List Bool := if isParty xs s then trues n else []
theorem lastBits_le (xs : List Int) (n : Nat) (s : Int) : (lastBits xs n s).length ≤ n := by
  rw [lastBits]
  split
  · rw [trues_len]; exact Nat.le_refl _
  · simp

theorem place_over (n : Nat) (h : n < 8) : (placeCells (trues n) true).setIfInBounds n (.bool true) = placeCells (trues (n + 1)) true := by
  match n, h with
  | 0, _ => rfl
  | 1, _ => rfl
  | 2, _ => rfl
  | 3, _ => rfl
  | 4, _ => rfl
  | 5, _ => rfl
  | 6, _ => rfl
  | 7, _ => rfl
theorem size_place : (Try.prog.info? 94).map (·.size) = some 9 := by kernel_rfl
theorem place_one (bs : List Bool) (t : Bool) : (placeCells bs t).all (·.oneCell') = true := by simp [placeCells, Value.oneCell']

set_option maxHeartbeats 1600000 in
theorem everybodyOver_any (n : Nat) (w : World) (hn : n ≤ 8) :
    Calls Try.prog 99 #[.int .i64 n] w fun e w' => e = .returned (.agg (placeCells (trues n) true)) ∧ Below w.heap.size w w' := by
  have h1 := (Whole.fresh w 94 (placeCells [] false)).alloc (.cells (placeCells (trues 0) true) 94)
  have h2 := Whole.fresh (w.alloc (.cells (placeCells [] false) 94)) 94 (placeCells (trues 0) true)
  have hb0 := below2 w (.cells (placeCells [] false) 94) (.cells (placeCells (trues 0) true) 94)
  simp only [World.size_alloc] at h1 h2
  go_enter Try.func99, Try.ntmps99
  go_wp2
  go_loopw [7] (fun i wr => ∃ k : Nat, k ≤ n ∧ i = .int .i64 k ∧ Whole wr w.heap.size 94 (placeCells [] false) ∧ Whole wr (w.heap.size + 1) 94 (placeCells (trues k) true) ∧ Below w.heap.size w wr) (fun i _ => n - (intOf i).toNat)
  case atStart => exact ⟨0, Nat.zero_le _, rfl, h1, h2, hb0⟩
  case round =>
    clear h1 h2 hb0
    obtain ⟨k, hk, rfl, h1, h2, hb⟩ := hrel
    by_cases hlt : k < n
    · have hk8 : k < 8 := by omega
      have hki : (k : Int) < 8 := by omega
      have hcell := (h2.cell k).trans (place_at (trues k) true hk8)
      have hfr := h2.open_ k
      have hset := h2.set_ k (.bool true)
      rw [place_over k hk8] at hset
      go_wp2
      go_roundw
      case rel => exact ⟨k + 1, by omega, by go_num, h1.off (by omega), hset, below_set hb (by omega)⟩
      case measure => simp [intOf]; omega
    · have hkn : k = n := by omega
      subst hkn
      go_wp2_with (first | (refine wpList_load_row rfl 94 (.tmp 3) rfl (w.heap.size + 1) rfl 94 (placeCells (trues k) true) (0, 0) _ h2 Try.underlying94 rfl size_place ?_) | (refine wpList_store_whole rfl 94 (.tmp 2) (.tmp 15) rfl w.heap.size (placeCells (trues k) true) rfl rfl 94 (placeCells [] false) h1 size_place rfl (place_one _ _) ?_; intro w2 hw2 ho2))
      have hb2 := ho2.below hb (by omega)
      obtain ⟨r0, r1, r2, r3, r4, r5, r6, r7, r8⟩ := place_cells hw2
      refine bodyPost_ret (v := .agg (placeCells (trues k) true)) (by simp [results, Try.results99, go_sem, r0, r1, r2, r3, r4, r5, r6, r7, r8, placeCells]) rfl ⟨rfl, hb2⟩

end Go.Proofs.Ytifaadjbkbdbnaa

namespace Go.Proofs.Ytifaadjbkbdbnaa
open Go.RowKit

/-- The places behind a trip: those on the list have changed sides. -/
def flipped (bs : List Bool) (l : List Int) : List Bool := (List.range bs.length).map fun i => bs.getD i false != has l i
theorem flipped_len (bs : List Bool) (l : List Int) : (flipped bs l).length = bs.length := by simp [flipped]
theorem flipped_at (bs : List Bool) (l : List Int) {i : Nat} (h : i < bs.length) : (flipped bs l)[i]? = some (bs.getD i false != has l i) := by simp [flipped, h]
theorem flipped_get (bs : List Bool) (l : List Int) {i : Nat} (h : i < bs.length) : (flipped bs l).getD i false = (bs.getD i false != has l i) := by
  rw [List.getD_eq_getElem?_getD, flipped_at bs l h]; rfl
theorem flipped_out (bs : List Bool) (l : List Int) {i : Nat} (h : bs.length ≤ i) : (flipped bs l).getD i false = false := by
  rw [List.getD_eq_getElem?_getD, List.getElem?_eq_none (by rw [flipped_len]; exact h)]; rfl
theorem flipped_nil (bs : List Bool) : flipped bs [] = bs := by
  apply List.ext_getElem?
  intro i
  by_cases h : i < bs.length
  · rw [flipped_at bs [] h]; simp [has, h]
  · rw [List.getElem?_eq_none (by rw [flipped_len]; omega), List.getElem?_eq_none (by omega)]
theorem flipped_next (bs : List Bool) {l : List Int} {j : Nat} (hj : j < l.length) (h0 : 0 ≤ l[j]) : (flipped bs (l.take j)).set (l[j]).toNat (!(bs.getD (l[j]).toNat false)) = flipped bs (l.take (j + 1)) := by
  apply List.ext_getElem?
  intro i
  rw [List.getElem?_set, flipped_len]
  by_cases hi : i < bs.length
  · rw [flipped_at bs _ hi, flipped_at bs _ hi, List.take_succ_eq_append_getElem hj, has_snoc]
    by_cases he : (l[j]).toNat = i
    · have hx : (l[j] == (i : Int)) = true := by simp; omega
      rw [if_pos he, if_pos (by omega), he, hx]
      cases has (l.take j) i <;> cases bs.getD i false <;> rfl
    · have hx : (l[j] == (i : Int)) = false := by simp; omega
      rw [if_neg he, hx, Bool.or_false]
  · rw [List.getElem?_eq_none (l := flipped bs (l.take (j + 1))) (by rw [flipped_len]; omega)]
    by_cases he : (l[j]).toNat = i
    · rw [if_pos he, if_neg (by omega)]
    · rw [if_neg he, List.getElem?_eq_none (by rw [flipped_len]; omega)]
theorem has_out {l : List Int} {n i : Nat} (hs : StepsTo l (n - 1) l.length) (h : n ≤ i) : has l i = false := by
  cases hh : has l i
  · rfl
  · have := (mem_steps hs (has_iff.1 hh)).2
    omega

/-- Places and torch behind all trips. -/
def after : List Bool → Bool → List (List Int) → List Bool × Bool
  | bs, t, [] => (bs, t)
  | bs, t, l :: ls => after (flipped bs l) (!t) ls
theorem after_snoc (l : List Int) : ∀ (ls : List (List Int)) (bs : List Bool) (t : Bool), after bs t (ls ++ [l]) = (flipped (after bs t ls).1 l, !(after bs t ls).2)
  | [], _, _ => rfl
  | _ :: ls, _, _ => after_snoc l ls _ _
theorem after_len : ∀ (ls : List (List Int)) (bs : List Bool) (t : Bool), (after bs t ls).1.length = bs.length
  | [], _, _ => rfl
  | l :: ls, bs, _ => (after_len ls _ _).trans (flipped_len bs l)
/-- How many trips can be made. -/
noncomputable def made (n : Nat) (s : Int) : List Bool → Bool → List (List Int) → Nat
  | _, _, [] => 0
  | bs, t, l :: ls => if canGo n s bs t l then made n s (flipped bs l) (!t) ls + 1 else 0
theorem made_le (n : Nat) (s : Int) : ∀ (ls : List (List Int)) (bs : List Bool) (t : Bool), made n s bs t ls ≤ ls.length
  | [], _, _ => Nat.le_refl _
  | l :: ls, bs, t => by
    rw [made]
    split
    · have := made_le n s ls (flipped bs l) (!t); simp; omega
    · simp
/-- The first k trips can be made; the rest is still to be looked at. -/
def MadeTo (n : Nat) (s : Int) (bs : List Bool) (t : Bool) (ls : List (List Int)) (k : Nat) : Prop :=
  made n s bs t ls = k + made n s (after bs t (ls.take k)).1 (after bs t (ls.take k)).2 (ls.drop k)
theorem MadeTo.start (n : Nat) (s : Int) (bs : List Bool) (t : Bool) (ls : List (List Int)) : MadeTo n s bs t ls 0 := by simp [MadeTo, after]
theorem MadeTo.next {n : Nat} {s : Int} {bs : List Bool} {t : Bool} {ls : List (List Int)} {k : Nat} (h : MadeTo n s bs t ls k) (hk : k < ls.length) (hc : canGo n s (after bs t (ls.take k)).1 (after bs t (ls.take k)).2 ls[k] = true) : MadeTo n s bs t ls (k + 1) := by
  unfold MadeTo at h ⊢
  rw [h, List.drop_eq_getElem_cons hk, made, if_pos hc, List.take_succ_eq_append_getElem hk, after_snoc]
  dsimp only
  omega
theorem MadeTo.stop {n : Nat} {s : Int} {bs : List Bool} {t : Bool} {ls : List (List Int)} {k : Nat} (h : MadeTo n s bs t ls k) (hk : k < ls.length) (hc : canGo n s (after bs t (ls.take k)).1 (after bs t (ls.take k)).2 ls[k] = false) : made n s bs t ls = k := by
  unfold MadeTo at h
  rw [h, List.drop_eq_getElem_cons hk, made, if_neg (by simp [hc])]
  omega
theorem MadeTo.done {n : Nat} {s : Int} {bs : List Bool} {t : Bool} {ls : List (List Int)} {k : Nat} (h : MadeTo n s bs t ls k) (hk : ls.length ≤ k) : made n s bs t ls = k := by
  unfold MadeTo at h
  rw [h, List.drop_eq_nil_of_le hk, made]
  omega
/-- Places and torch behind the trips that can be made. -/
noncomputable def ended (n : Nat) (s : Int) (bs : List Bool) (t : Bool) (ls : List (List Int)) : List Bool × Bool := after bs t (ls.take (made n s bs t ls))
theorem ended_len (n : Nat) (s : Int) (bs : List Bool) (t : Bool) (ls : List (List Int)) : (ended n s bs t ls).1.length = bs.length := after_len _ _ _
theorem can_steps {n : Nat} {s : Int} {bs : List Bool} {t : Bool} {l : List Int} (h : canGo n s bs t l = true) : StepsTo l (n - 1) l.length := by
  simp only [canGo, Bool.and_eq_true] at h
  exact trip_steps h.1
theorem trip_short {n : Nat} {s : Int} {l : List Int} (h : isTrip n s l = true) : (l.length : Int) ≤ s := by
  simp only [isTrip, Bool.and_eq_true] at h
  exact (within_iff.1 h.1).2
end Go.Proofs.Ytifaadjbkbdbnaa

namespace Go.Proofs.Ytifaadjbkbdbnaa
open Go.RowKit

/-- One cell of the place while the first k people are looked at. -/
def crossAt (bs : List Bool) (l : List Int) (k i : Nat) : Bool := if i < k then bs.getD i false != has l i else bs.getD i false
def crossTo (bs : List Bool) (t : Bool) (l : List Int) (k : Nat) : Array Value := #[.bool (crossAt bs l k 0), .bool (crossAt bs l k 1), .bool (crossAt bs l k 2), .bool (crossAt bs l k 3), .bool (crossAt bs l k 4), .bool (crossAt bs l k 5), .bool (crossAt bs l k 6), .bool (crossAt bs l k 7), .bool t]
theorem crossAt_here (bs : List Bool) (l : List Int) (k : Nat) : crossAt bs l k k = bs.getD k false := by simp [crossAt]
theorem cross_get (bs : List Bool) (t : Bool) (l : List Int) {k : Nat} (h : k < 8) : (crossTo bs t l k)[k]? = some (.bool (bs.getD k false)) := by
  rw [← crossAt_here bs l k]
  match k, h with
  | 0, _ => rfl
  | 1, _ => rfl
  | 2, _ => rfl
  | 3, _ => rfl
  | 4, _ => rfl
  | 5, _ => rfl
  | 6, _ => rfl
  | 7, _ => rfl
theorem cross_skip (bs : List Bool) (t : Bool) {l : List Int} {k : Nat} (h : has l k = false) : crossTo bs t l (k + 1) = crossTo bs t l k := by
  have hh : ∀ i, crossAt bs l (k + 1) i = crossAt bs l k i := by
    intro i
    unfold crossAt
    by_cases h1 : i < k
    · rw [if_pos h1, if_pos (by omega)]
    · by_cases h2 : i = k
      · subst h2; rw [if_pos (by omega), if_neg h1, h]; cases bs.getD i false <;> rfl
      · rw [if_neg h1, if_neg (by omega)]
  simp only [crossTo, hh]
theorem cross_turn (bs : List Bool) (t : Bool) {l : List Int} {k : Nat} (hk : k < 8) (h : has l k = true) : (crossTo bs t l k).setIfInBounds k (.bool (!(bs.getD k false))) = crossTo bs t l (k + 1) := by
  have h1 : crossAt bs l (k + 1) k = !(bs.getD k false) := by
    unfold crossAt; rw [if_pos (by omega), h]; cases bs.getD k false <;> rfl
  have hh : ∀ i, i ≠ k → crossAt bs l (k + 1) i = crossAt bs l k i := by
    intro i hi
    unfold crossAt
    by_cases h1 : i < k
    · rw [if_pos h1, if_pos (by omega)]
    · rw [if_neg h1, if_neg (by omega)]
  rw [← h1]
  unfold crossTo
  match k, hk with
  | 0, _ => simp [hh]
  | 1, _ => simp [hh]
  | 2, _ => simp [hh]
  | 3, _ => simp [hh]
  | 4, _ => simp [hh]
  | 5, _ => simp [hh]
  | 6, _ => simp [hh]
  | 7, _ => simp [hh]
theorem cross_start (bs : List Bool) (t : Bool) (l : List Int) : placeCells bs t = crossTo bs t l 0 := by simp [placeCells, crossTo, crossAt]
theorem cross_end {bs : List Bool} {t : Bool} {l : List Int} (h : ∀ i, bs.length ≤ i → has l i = false) : (crossTo bs t l 8).setIfInBounds 8 (.bool (!t)) = placeCells (flipped bs l) (!t) := by
  have hh : ∀ i, i < 8 → crossAt bs l 8 i = (flipped bs l).getD i false := by
    intro i hi
    rw [crossAt, if_pos hi]
    by_cases h1 : i < bs.length
    · rw [flipped_get bs l h1]
    · rw [flipped_out bs l (by omega), h i (by omega), List.getD_eq_getElem?_getD, List.getElem?_eq_none (by omega)]; rfl
  simp only [crossTo, placeCells, hh 0 (by omega), hh 1 (by omega), hh 2 (by omega), hh 3 (by omega), hh 4 (by omega), hh 5 (by omega), hh 6 (by omega), hh 7 (by omega)]
  rfl
theorem cross_one (bs : List Bool) (t : Bool) (l : List Int) (k : Nat) : (crossTo bs t l k).all (·.oneCell') = true := by simp [crossTo, Value.oneCell']

set_option maxHeartbeats 1600000 in
theorem cross_any (bs : List Bool) (l : List Int) (t : Bool) (w : World) (h : ∀ i, bs.length ≤ i → has l i = false) :
    Calls Try.prog 146 #[.agg (placeCells bs t), .agg (crowdCells l)] w fun e w' => e = .returned (.agg (placeCells (flipped bs l) (!t))) ∧ Below w.heap.size w w' := by
  have HEND := Lib.hid (cross_end (t := t) h)
  clear h
  have h0 := ((Whole.fresh w 94 (placeCells bs t)).alloc (.cells (crowdCells l) 92)).alloc (.cells (placeCells [] false) 94)
  have h2 := Whole.fresh ((w.alloc (.cells (placeCells bs t) 94)).alloc (.cells (crowdCells l) 92)) 94 (placeCells [] false)
  simp only [World.size_alloc] at h2
  have hb := below3 w (.cells (placeCells bs t) 94) (.cells (crowdCells l) 92) (.cells (placeCells [] false) 94)
  rw [cross_start bs t l] at h0
  have H0 := Lib.hid h0
  have H2 := Lib.hid h2
  have HB := Lib.hid hb
  clear h0 h2 hb
  unfold crowdCells at *
  go_enter Try.func146, Try.ntmps146
  go_wp2
  go_loopw [9] (fun i wr => ∃ k : Nat, k ≤ 8 ∧ i = .int .i64 k ∧ Whole wr w.heap.size 94 (crossTo bs t l k) ∧ Whole wr (w.heap.size + 1 + 1) 94 (placeCells [] false) ∧ Below w.heap.size w wr) (fun i _ => 8 - (intOf i).toNat)
  case atStart => exact ⟨0, Nat.zero_le _, rfl, H0.out, H2.out, HB.out⟩
  case round =>
    obtain ⟨k, hk, rfl, g0, g2, hb⟩ := hrel
    clear H0 H2 HB
    have hl0 := g0.lt
    have hl2 := g2.lt
    by_cases hlt : k < 8
    · have hix := index_crowd l hlt
      have hkk : (k : Int) < 8 := by omega
      cases hp : has l k
      · rw [hp] at hix
        have HN := Lib.hid (cross_skip bs t hp)
        clear hp
        go_wp2
        go_roundw
        case rel => exact ⟨k + 1, by omega, by go_num, by rw [HN.out]; exact g0, g2, hb⟩
        case measure => simp [intOf]; omega
      · rw [hp] at hix
        have hcell := (g0.cell k).trans (cross_get bs t l hlt)
        have hfr := g0.open_ k
        have hs := g0.set_ k (.bool (!(bs.getD k false)))
        rw [cross_turn bs t hlt hp] at hs
        have HS := Lib.hid hs
        have HF := Lib.hid (g2.off (b := w.heap.size) (o := k) (u := .bool (!(bs.getD k false))) (by omega))
        clear hp hs
        go_wp2
        go_roundw
        case rel => exact ⟨k + 1, by omega, by go_num, HS.out, HF.out, below_set hb (Nat.le_refl _)⟩
        case measure => simp [intOf]; omega
    · have hk8 : k = 8 := by omega
      subst hk8
      have hcell := (g0.cell 8).trans (show (crossTo bs t l 8)[8]? = some (.bool t) from rfl)
      have hfr := g0.open_ 8
      have hs := g0.set_ 8 (.bool (!t))
      rw [HEND.out] at hs
      have hg2 := g2.off (b := w.heap.size) (o := 8) (u := .bool (!t)) (by omega)
      have hbb := below_set (o := 8) (u := .bool (!t)) hb (Nat.le_refl w.heap.size)
      clear g0 g2 hb
      go_wp2_with (first | (refine wpList_load_row rfl 94 (.tmp 2) rfl w.heap.size rfl 94 (placeCells (flipped bs l) (!t)) (0, 0) _ hs Try.underlying94 rfl size_place ?_) | (refine wpList_store_whole rfl 94 (.tmp 4) (.tmp 29) rfl (w.heap.size + 1 + 1) (placeCells (flipped bs l) (!t)) rfl rfl 94 (placeCells [] false) hg2 size_place rfl (place_one _ _) ?_; intro w2 hw2 ho2))
      have hb2 := ho2.below hbb (by omega)
      obtain ⟨r0, r1, r2, r3, r4, r5, r6, r7, r8⟩ := place_cells hw2
      refine bodyPost_ret (v := .agg (placeCells (flipped bs l) (!t))) (by simp [results, Try.results146, go_sem, r0, r1, r2, r3, r4, r5, r6, r7, r8, placeCells]) rfl ⟨rfl, hb2⟩
end Go.Proofs.Ytifaadjbkbdbnaa

namespace Go.Proofs.Ytifaadjbkbdbnaa
open Go.RowKit

theorem Fresh.turn {w : World} {lo hi k : Nat} {ty : TypeId} {A : Option Addr} {xs : List Value} (hf : Fresh w lo hi ty A xs) (hk : k < xs.length) :
    ∃ g u, A = some ⟨g, 0, none⟩ ∧ lo ≤ g ∧ g < hi ∧ g < w.heap.size ∧ w.cell? ⟨g, k, none⟩ = some u ∧ w.frozen? ⟨g, k, none⟩ = false ∧ ∀ v, Fresh (w.setCell ⟨g, k, none⟩ v) lo hi ty A (xs.set k v) := by
  rcases hf with rfl | ⟨g, cs, hA, h1, h2, hw, h3, h4⟩
  · simp at hk
  · refine ⟨g, cs[k]'(by omega), hA, h1, h2, hw.lt, (hw.cell k).trans (by simp), hw.open_ k, fun v => .inr ⟨g, _, hA, h1, h2, hw.set_ k v, by simpa using h3, ?_⟩⟩
    rw [List.length_set, Array.toList_setIfInBounds, ← h4, List.take_set, List.length_take]
    congr 2
    simp only [Array.length_toList]
    omega

/-- What stands behind the model's copy of the state. -/
def CrossMid (m : Nat) (bs : List Bool) (t : Bool) (b o d : Nat) (w : World) (v : Value) (wx : World) : Prop :=
  ∃ (g c lo hi : Nat) (A : Option Addr), v = .pointer (some ⟨g, 0, none⟩) ∧ w.heap.size + 1 + 1 ≤ g ∧ w.heap.size + 1 + 1 ≤ lo ∧ (g < lo ∨ hi ≤ g) ∧ hi ≤ wx.heap.size ∧ Whole wx g 35 #[.slice A m c, .bool (!t)] ∧ Fresh wx lo hi 4 A (bits bs) ∧ Whole wx w.heap.size 35 #[.slice (some ⟨b, o, none⟩) m d, .bool t] ∧ Whole wx (w.heap.size + 1) 35 #[.slice none 0 0, .bool false] ∧ Below w.heap.size w wx

end Go.Proofs.Ytifaadjbkbdbnaa

namespace Go.Proofs.Ytifaadjbkbdbnaa
open Go.RowKit

theorem Holds.spot {w : World} {A : Option Addr} {xs : List Value} (h : Holds w A xs) (h0 : 0 < xs.length) : ∃ b o, A = some ⟨b, o, none⟩ ∧ b < w.heap.size ∧ ∀ j u, xs[j]? = some u → w.cell? ⟨b, o + j, none⟩ = some u := by
  rcases h with rfl | h
  · simp at h0
  · exact h
/-- The places lie in a block that is old or new, but none of the call's own first three. -/
def Apart (B : Nat) (w : World) (A : Option Addr) (xs : List Value) : Prop := ∃ b o, A = some ⟨b, o, none⟩ ∧ b < w.heap.size ∧ (b < B ∨ B + 1 + 1 + 1 ≤ b) ∧ ∀ j u, xs[j]? = some u → w.cell? ⟨b, o + j, none⟩ = some u
theorem Apart.holds {B : Nat} {w : World} {A : Option Addr} {xs : List Value} (h : Apart B w A xs) : Holds w A xs := by
  obtain ⟨b, o, hA, hb, -, hc⟩ := h
  exact .inr ⟨b, o, hA, hb, hc⟩
theorem Apart.below {B : Nat} {w w' : World} {A : Option Addr} {xs : List Value} (h : Apart B w A xs) (hb : Below w.heap.size w w') : Apart B w' A xs := by
  obtain ⟨b, o, hA, hl, hd, hc⟩ := h
  exact ⟨b, o, hA, Nat.lt_of_lt_of_le hl hb.size, hd, fun j u hu => (hb.cell (p := ⟨b, o + j, none⟩) hl).trans (hc j u hu)⟩
theorem Apart.set {B g i : Nat} {w : World} {A : Option Addr} {xs : List Value} (h : Apart B w A xs) (hg : B ≤ g ∧ g ≤ B + 1 + 1) (v : Value) : Apart B (w.setCell ⟨g, i, none⟩ v) A xs := by
  obtain ⟨b, o, hA, hl, hd, hc⟩ := h
  refine ⟨b, o, hA, by simpa [World.setCell] using hl, hd, fun j u hu => ?_⟩
  have h1 := hc j u hu
  have h2 := Below.heap_setCell w ⟨g, i, none⟩ v b (by show b ≠ g; omega)
  simp only [World.cell?] at h1 ⊢
  rw [h2]
  exact h1

/-- What paPlay hands back. -/
def PlayPost (n : Nat) (s : Int) (bs : List Bool) (t : Bool) (ls : List (List Int)) (m : Nat) (w : World) (e : Ending) (w' : World) : Prop :=
  ∃ (A : Option Addr) (c : Nat), e = .returned (.tuple #[.agg #[.slice A m c, .bool (ended n s bs t ls).2], .int .i64 (made n s bs t ls)]) ∧ Holds w' A (bits (ended n s bs t ls).1) ∧ Below w.heap.size w w'

theorem rowNums_get {rs : List RowV} {k : Nat} (hk : k < rs.length) : (rowNums rs)[k]'(by rw [rowNums_len]; exact hk) = rs[k].xs := by simp [rowNums]

end Go.Proofs.Ytifaadjbkbdbnaa

namespace Go.Proofs.Ytifaadjbkbdbnaa
open Go.RowKit

/-- All people of several lists. -/
def flat (G : List (List Int)) : List Int := G.flatten
theorem flat_next {G : List (List Int)} {k : Nat} (hk : k < G.length) : flat (G.take (k + 1)) = flat (G.take k) ++ G[k] := by
  unfold flat
  rw [List.take_succ_eq_append_getElem hk, List.flatten_append]
  simp only [List.flatten_cons, List.flatten_nil, List.append_nil]
theorem flat_zero (G : List (List Int)) : flat (G.take 0) = [] := rfl
/-- Is anybody on both lists? -/
def meets (a b : List Int) : Bool := (List.range 8).any fun i => has a i && has b i
theorem meets_iff {a b : List Int} : meets a b = true ↔ ∃ i, i < 8 ∧ has a i = true ∧ has b i = true := by simp [meets, List.any_eq_true]
theorem meets_no {a b : List Int} : meets a b = false ↔ ∀ i, i < 8 → has a i = true → has b i = false := by
  constructor
  · intro h i hi ha
    cases hb : has b i
    · rfl
    · rw [meets_iff.2 ⟨i, hi, ha, hb⟩] at h; cases h
  · intro h
    cases hm : meets a b
    · rfl
    · obtain ⟨i, hi, ha, hb⟩ := meets_iff.1 hm
      rw [h i hi ha] at hb; cases hb
/-- The first k lists: each rises, is short enough, and has nobody in common with those before. -/
noncomputable def okAt (n : Nat) (s : Int) (G : List (List Int)) (k : Nat) : Bool := isTrip n s (G.getD k []) && !meets (flat (G.take k)) (G.getD k [])
noncomputable def areGroups (n : Nat) (s t : Int) (G : List (List Int)) : Bool := within G.length 1 t && (List.range G.length).all (okAt n s G)
def OkTo (n : Nat) (s : Int) (G : List (List Int)) (k : Nat) : Prop := ∀ j, j < k → okAt n s G j = true
theorem OkTo.next {n : Nat} {s : Int} {G : List (List Int)} {k : Nat} (h : OkTo n s G k) (hk : okAt n s G k = true) : OkTo n s G (k + 1) := fun j hj => by
  rcases Nat.lt_or_ge j k with h1 | h1
  · exact h j h1
  · obtain rfl : j = k := by omega
    exact hk
theorem groups_len {n : Nat} {s t : Int} {G : List (List Int)} (h : within G.length 1 t = false) : areGroups n s t G = false := by simp [areGroups, h]
theorem groups_no {n : Nat} {s t : Int} {G : List (List Int)} {k : Nat} (hk : k < G.length) (h : okAt n s G k = false) : areGroups n s t G = false := by
  have : (List.range G.length).all (okAt n s G) = false := by
    cases he : (List.range G.length).all (okAt n s G)
    · rfl
    · rw [List.all_eq_true] at he
      rw [he k (List.mem_range.2 hk)] at h; cases h
  rw [areGroups, this, Bool.and_false]
theorem groups_yes {n : Nat} {s t : Int} {G : List (List Int)} (h : within G.length 1 t = true) (hk : OkTo n s G G.length) : areGroups n s t G = true := by
  have : (List.range G.length).all (okAt n s G) = true := List.all_eq_true.2 fun j hj => hk j (List.mem_range.1 hj)
  rw [areGroups, this, h]; rfl
theorem groups_ok {n : Nat} {s t : Int} {G : List (List Int)} (h : areGroups n s t G = true) : (1 ≤ (G.length : Int) ∧ (G.length : Int) ≤ t) ∧ OkTo n s G G.length := by
  rw [areGroups, Bool.and_eq_true, within_iff, List.all_eq_true] at h
  exact ⟨h.1, fun j hj => h.2 j (List.mem_range.2 hj)⟩
theorem getG {G : List (List Int)} {k : Nat} (hk : k < G.length) : G.getD k [] = G[k] := by simp [hk]
theorem ok_trip {n : Nat} {s : Int} {G : List (List Int)} {k : Nat} (hk : k < G.length) (h : okAt n s G k = true) : isTrip n s G[k] = true := by
  rw [okAt, getG hk, Bool.and_eq_true] at h; exact h.1
theorem ok_apart {n : Nat} {s : Int} {G : List (List Int)} {k : Nat} (hk : k < G.length) (h : okAt n s G k = true) : meets (flat (G.take k)) G[k] = false := by
  rw [okAt, getG hk, Bool.and_eq_true, Bool.not_eq_true'] at h; exact h.2
theorem okAt_yes {n : Nat} {s : Int} {G : List (List Int)} {k : Nat} (hk : k < G.length) (h : isTrip n s G[k] = true) (h' : meets (flat (G.take k)) G[k] = false) : okAt n s G k = true := by
  rw [okAt, getG hk, h, h']; rfl
theorem okAt_trip {n : Nat} {s : Int} {G : List (List Int)} {k : Nat} (hk : k < G.length) (h : isTrip n s G[k] = false) : okAt n s G k = false := by
  rw [okAt, getG hk, h]; rfl
theorem okAt_meets {n : Nat} {s : Int} {G : List (List Int)} {k : Nat} (hk : k < G.length) (h' : meets (flat (G.take k)) G[k] = true) : okAt n s G k = false := by
  rw [okAt, getG hk, h']; simp
theorem trip_parts {n : Nat} {s : Int} {l : List Int} (h : isTrip n s l = true) : (1 ≤ (l.length : Int) ∧ (l.length : Int) ≤ s) ∧ StepsTo l ((n : Int) - 1) l.length := by
  rw [isTrip, Bool.and_eq_true, within_iff] at h
  exact ⟨h.1, rising_steps h.2⟩
/-- Who is on the lists so far lies among the people. -/
theorem flat_in {n : Nat} {s : Int} {G : List (List Int)} {k : Nat} (h : OkTo n s G k) (hk : k ≤ G.length) : ∀ x ∈ flat (G.take k), 0 ≤ x ∧ x ≤ (n : Int) - 1 := by
  intro x hx
  obtain ⟨l, hl, hxl⟩ := List.mem_flatten.1 hx
  obtain ⟨j, hj, rfl⟩ := List.getElem_of_mem hl
  have hj' : j < k ∧ j < G.length := by rw [List.length_take] at hj; omega
  rw [List.getElem_take] at hxl
  exact mem_steps (trip_parts (ok_trip hj'.2 (h j hj'.1))).2 hxl
theorem flat_mask {n : Nat} {s : Int} {G : List (List Int)} {k : Nat} (h : OkTo n s G k) (hk : k ≤ G.length) (hn : n ≤ 8) : maskOf (flat (G.take k)) < 256 :=
  mask_lt (n := 8) (by omega) _ (fun x hx => by have := (flat_in h hk x hx).2; omega)
theorem mask_append (a b : List Int) : maskOf (a ++ b) = maskOf a ||| maskOf b := by
  induction b using snoc_ind with
  | h0 => simp [maskOf]
  | h1 l x ih => rw [← List.append_assoc, mask_snoc, ih, mask_snoc, Nat.or_assoc]
theorem mask_meets {a b : List Int} (ha : ∀ x ∈ a, 0 ≤ x) (hb : ∀ x ∈ b, 0 ≤ x) (hb8 : maskOf b < 256) : ((maskOf a &&& maskOf b : Nat) == 0) = !meets a b := by
  have key : ∀ i, (maskOf a &&& maskOf b).testBit i = (has a i && has b i) := fun i => by
    rw [Nat.testBit_and]
    exact congr (congrArg _ (mask_bit a ha i)) (mask_bit b hb i)
  cases hm : meets a b
  · have h0 : maskOf a &&& maskOf b = 0 := by
      apply Nat.eq_of_testBit_eq
      intro i
      rw [key, Nat.zero_testBit]
      by_cases hi : i < 8
      · cases hA : has a i
        · rfl
        · rw [meets_no.1 hm i hi hA]; rfl
      · have : has b i = false := by
          rw [← mask_bit b hb i]
          exact Nat.testBit_lt_two_pow (Nat.lt_of_lt_of_le hb8 (show 2 ^ 8 ≤ 2 ^ i from Nat.pow_le_pow_right (by omega) (by omega)))
        rw [this, Bool.and_false]
    rw [h0]; rfl
  · obtain ⟨i, hi, h1, h2⟩ := meets_iff.1 hm
    have h3 := key i
    rw [h1, h2] at h3
    have : maskOf a &&& maskOf b ≠ 0 := by
      intro h0
      rw [h0, Nat.zero_testBit] at h3; cases h3
    simp [this]
theorem slowOf_snoc (xs l : List Int) (x : Int) : slowOf xs (l ++ [x]) = max (slowOf xs l) (xs.getD x.toNat 0) := by
  rw [slowOf, slowOf, List.map_append, List.foldl_append]; rfl

set_option maxHeartbeats 3200000 in
set_option linter.unusedVariables false in
theorem toGroups_any (A : Option Addr) (n c : Nat) (xs : List Int) (s t : Int) (D : Option Addr) (q z : Nat) (rs : List RowV) (w : World) (hD : Grid w D rs) (hz : rs.length = q) (hq : q ≤ 9223372036854775807) (hn : n ≤ 8) (ht : t ≤ 8) :
    Calls Try.prog 95 #[.agg #[.slice A n c, .int .i64 s, .int .i64 t], .slice D q z] w fun e w' => e = .returned (.bool (areGroups n s t (rowNums rs))) ∧ Below w.heap.size w w' := by
  subst hz
  have hD2 := hD.alloc (.cells #[.slice A n c, .int .i64 s, .int .i64 t] 48)
  cases h1 : within rs.length 1 t
  · have HP := Lib.hid (groups_len (n := n) (s := s) (G := rowNums rs) (by rw [rowNums_len]; exact h1))
    have H1 := Lib.hid h1
    clear h1
    go_enter Try.func95, Try.ntmps95
    go_wp2_with fail
    refine (l1In_any _ _ _ _).mono ?_
    rintro e w' ⟨rfl, rfl⟩
    rw [H1.out]
    go_wp2
    go_ret
    exact ⟨ret_of (by rw [HP.out]; rfl), below1 w _⟩
  have H1 := Lib.hid h1
  have hr8 : rs.length ≤ 8 := by have := (within_iff.1 h1).2; omega
  clear h1
  go_enter Try.func95, Try.ntmps95
  go_wp2_with fail
  refine (l1In_any _ _ _ _).mono ?_
  rintro e w' ⟨rfl, rfl⟩
  rw [H1.out]
  go_wp2
  go_loop [5, 16] (fun v i => ∃ k : Nat, k ≤ rs.length ∧ i = .int .i64 k ∧ v = .int .i64 (maskOf (flat ((rowNums rs).take k))) ∧ OkTo n s (rowNums rs) k) (fun _ i => rs.length - (intOf i).toNat)
  case atStart => exact ⟨0, Nat.zero_le _, rfl, rfl, fun j hj => absurd hj (by omega)⟩
  case round =>
    obtain ⟨k, hk, rfl, rfl, hok⟩ := hrel
    have HOK := Lib.hid hok
    clear hok
    by_cases hlt : k < rs.length
    · have hkr : k < (rowNums rs).length := by rw [rowNums_len]; exact hlt
      obtain ⟨b, o, rfl, hb, hc, hrow⟩ := hD2.look hlt
      have HG := Lib.hid (rowNums_get hlt)
      have HROW := Lib.hid hrow
      have hrn : rs[k].n ≤ 9223372036854775807 := hrow.2.2
      have HRL : Hid (rs[k].xs.length = rs[k].n) := hrow.2.1
      clear hrow
      cases hw1 : within rs[k].xs.length 1 s
      · have HT : Hid (isTrip n s rs[k].xs = false) := by show _ = _; simp [isTrip, hw1]
        have HP := Lib.hid (groups_no (t := t) hkr (okAt_trip hkr (by rw [HG.out]; exact HT.out)))
        have HW1 := Lib.hid (show within (rs[k].n : Int) 1 s = false by rw [← HRL.out]; exact hw1)
        clear hw1
        go_wp2_with fail
        refine (l1In_any _ _ _ _).mono ?_
        rintro e w' ⟨rfl, rfl⟩
        rw [HW1.out]
        go_wp2
        go_ret
        exact ⟨ret_of (by rw [HP.out]; rfl), below1 w _⟩
      have HW1 := Lib.hid (show within (rs[k].n : Int) 1 s = true by rw [← HRL.out]; exact hw1)
      cases hri : rising rs[k].xs ((n : Int) - 1)
      · have HT : Hid (isTrip n s rs[k].xs = false) := by show _ = _; simp [isTrip, hri]
        have HP := Lib.hid (groups_no (t := t) hkr (okAt_trip hkr (by rw [HG.out]; exact HT.out)))
        have HRI := Lib.hid hri
        clear hw1 hri
        go_wp2_with fail
        refine (l1In_any _ _ _ _).mono ?_
        rintro e w' ⟨rfl, rfl⟩
        rw [HW1.out]
        go_wp2_with fail
        refine (l1Rising_any _ _ _ rs[k].xs _ _ HROW.out.1 HRL.out hrn).mono ?_
        rintro e w' ⟨rfl, rfl⟩
        rw [HRI.out]
        go_wp2
        go_ret
        exact ⟨ret_of (by rw [HP.out]; rfl), below1 w _⟩
      have HT : Hid (isTrip n s rs[k].xs = true) := by show _ = _; simp [isTrip, hri, hw1]
      have HST := Lib.hid (rising_steps hri)
      have hn7 : (n : Int) - 1 ≤ 7 := by omega
      have HRI := Lib.hid hri
      have hm1 : maskOf (flat ((rowNums rs).take k)) < 9223372036854775808 := Nat.lt_of_lt_of_le (flat_mask HOK.out (by omega) hn) (by decide)
      have hm2 : maskOf rs[k].xs < 9223372036854775808 := Nat.lt_of_lt_of_le (mask_small HST.out hn7) (by decide)
      have hmm := mask_meets (a := flat ((rowNums rs).take k)) (b := rs[k].xs) (fun x hx => (flat_in HOK.out (by omega) x hx).1) (fun x hx => (mem_steps HST.out hx).1) (mask_small HST.out hn7)
      have HAND := Lib.hid (bits_and_nat _ _ hm1 hm2)
      clear hw1 hri
      cases hme : meets (flat ((rowNums rs).take k)) rs[k].xs
      · have HNE : Hid ((Go.bits .and .i64 (maskOf (flat ((rowNums rs).take k)) : Int) (maskOf rs[k].xs : Int) != 0) = false) := by
          show _ = _
          rw [HAND.out]
          rw [hme] at hmm
          simp only [Bool.not_false, beq_iff_eq] at hmm
          rw [hmm]; rfl
        have HNX : Hid (Go.bits .or .i64 (maskOf (flat ((rowNums rs).take k)) : Int) (maskOf rs[k].xs : Int) = (maskOf (flat ((rowNums rs).take (k + 1))) : Int)) := by
          show _ = _
          rw [bits_or_nat _ _ hm1 hm2, flat_next hkr, HG.out, mask_append]
        have HOK2 := Lib.hid (HOK.out.next (okAt_yes hkr (by rw [HG.out]; exact HT.out) (by rw [HG.out]; exact hme)))
        have hne := HNE.out
        clear hmm hm1 hm2 hme HAND
        go_wp2_with fail
        refine (l1In_any _ _ _ _).mono ?_
        rintro e w' ⟨rfl, rfl⟩
        rw [HW1.out]
        go_wp2_with fail
        refine (l1Rising_any _ _ _ rs[k].xs _ _ HROW.out.1 HRL.out hrn).mono ?_
        rintro e w' ⟨rfl, rfl⟩
        rw [HRI.out]
        go_wp2_with fail
        refine (cuBits_any _ _ _ rs[k].xs _ _ HROW.out.1 HRL.out hrn HST.out hn7).mono ?_
        rintro e w' ⟨rfl, rfl⟩
        go_wp2_with fail
        refine (cuBits_any _ _ _ rs[k].xs _ _ HROW.out.1 HRL.out hrn HST.out hn7).mono ?_
        rintro e w' ⟨rfl, rfl⟩
        go_wp2
        go_round
        case rel => exact ⟨k + 1, by omega, by go_num, by rw [HNX.out], HOK2.out⟩
        case measure => simp [intOf]; omega
      · have HNE : Hid ((Go.bits .and .i64 (maskOf (flat ((rowNums rs).take k)) : Int) (maskOf rs[k].xs : Int) != 0) = true) := by
          show _ = _
          rw [HAND.out]
          rw [hme] at hmm
          simp only [Bool.not_true] at hmm
          have : maskOf (flat ((rowNums rs).take k)) &&& maskOf rs[k].xs ≠ 0 := by simpa using hmm
          simp; omega
        have HP := Lib.hid (groups_no (n := n) (s := s) (t := t) hkr (okAt_meets hkr (by rw [HG.out]; exact hme)))
        have hne := HNE.out
        clear hmm hm1 hm2 hme HAND
        go_wp2_with fail
        refine (l1In_any _ _ _ _).mono ?_
        rintro e w' ⟨rfl, rfl⟩
        rw [HW1.out]
        go_wp2_with fail
        refine (l1Rising_any _ _ _ rs[k].xs _ _ HROW.out.1 HRL.out hrn).mono ?_
        rintro e w' ⟨rfl, rfl⟩
        rw [HRI.out]
        go_wp2_with fail
        refine (cuBits_any _ _ _ rs[k].xs _ _ HROW.out.1 HRL.out hrn HST.out hn7).mono ?_
        rintro e w' ⟨rfl, rfl⟩
        go_wp2
        go_ret
        exact ⟨ret_of (by rw [HP.out]; rfl), below1 w _⟩
    · have hkn : k = rs.length := by omega
      subst hkn
      have HP := Lib.hid (groups_yes (t := t) (by rw [rowNums_len]; exact H1.out) (show OkTo n s (rowNums rs) (rowNums rs).length by rw [rowNums_len]; exact HOK.out))
      go_wp2
      go_ret
      exact ⟨ret_of (by rw [HP.out]; rfl), below1 w _⟩

set_option maxHeartbeats 1600000 in
set_option linter.unusedVariables false in
theorem toTime_any (A : Option Addr) (n c : Nat) (xs : List Int) (s t : Int) (D : Option Addr) (q z : Nat) (rs : List RowV) (w : World) (hA : Holds w A (nums xs)) (hx : xs.length = n) (hD : Grid w D rs) (hz : rs.length = q) (hq : q ≤ 9223372036854775807) (hn : n ≤ 8) (hok : OkTo n s (rowNums rs) rs.length) :
    Calls Try.prog 96 #[.agg #[.slice A n c, .int .i64 s, .int .i64 t], .slice D q z] w fun e w' => e = .returned (.int .i64 (slowOf xs (flat (rowNums rs)))) ∧ Below w.heap.size w w' := by
  subst hz
  have hA2 := hA.alloc (.cells #[.slice A n c, .int .i64 s, .int .i64 t] 48)
  have hD2 := hD.alloc (.cells #[.slice A n c, .int .i64 s, .int .i64 t] 48)
  have HX := Lib.hid hx
  have HOK := Lib.hid hok
  clear hx hok
  go_enter Try.func96, Try.ntmps96
  go_wp2
  go_loop [5, 12] (fun v i => ∃ k : Nat, k ≤ rs.length ∧ i = .int .i64 k ∧ v = .int .i64 (slowOf xs (flat ((rowNums rs).take k)))) (fun _ i => rs.length - (intOf i).toNat)
  case atStart => exact ⟨0, Nat.zero_le _, rfl, rfl⟩
  case round =>
    obtain ⟨k, hk, rfl, rfl⟩ := hrel
    by_cases hlt : k < rs.length
    · have hkr : k < (rowNums rs).length := by rw [rowNums_len]; exact hlt
      obtain ⟨b, o, rfl, hb, hc, hrow⟩ := hD2.look hlt
      have HG := Lib.hid (rowNums_get hlt)
      have HROW := Lib.hid hrow
      have hrn : rs[k].n ≤ 9223372036854775807 := hrow.2.2
      have HRL : Hid (rs[k].xs.length = rs[k].n) := hrow.2.1
      have HST : Hid (StepsTo rs[k].xs ((n : Int) - 1) rs[k].xs.length) := by
        show StepsTo _ _ _
        rw [← HG.out]; exact (trip_parts (ok_trip hkr (HOK.out k hlt))).2
      clear hrow
      go_wp2
      go_loop [5, 18] (fun v i => ∃ j : Nat, j ≤ rs[k].n ∧ i = .int .i64 j ∧ v = .int .i64 (slowOf xs (flat ((rowNums rs).take k) ++ rs[k].xs.take j))) (fun _ i => rs[k].n - (intOf i).toNat)
      case atStart => exact ⟨0, Nat.zero_le _, rfl, by simp⟩
      case round =>
        obtain ⟨j, hj, rfl, rfl⟩ := hrel
        by_cases hjt : j < rs[k].n
        · have hjl : j < rs[k].xs.length := by have := HRL.out; omega
          obtain ⟨b1, o1, hb1, hb2, hcc⟩ := HROW.out.1.look (k := j) (by simpa [nums] using hjl)
          simp only [nums, List.getElem_map] at hcc
          have hst := HST.out j hjl
          have hlo := hst.1
          have hhi := hst.2.1
          rw [getD_at _ hjl] at hlo hhi
          have hix : (rs[k].xs[j]).toNat < xs.length := by have := HX.out; omega
          obtain ⟨b', o', rfl, hb', hc'⟩ := hA2.look (k := (rs[k].xs[j]).toNat) (by simpa [nums] using hix)
          simp only [nums, List.getElem_map] at hc'
          have hnx : slowOf xs (flat ((rowNums rs).take k) ++ rs[k].xs.take (j + 1)) = max (slowOf xs (flat ((rowNums rs).take k) ++ rs[k].xs.take j)) (xs[(rs[k].xs[j]).toNat]) := by
            rw [List.take_succ_eq_append_getElem hjl, ← List.append_assoc, slowOf_snoc, List.getD_eq_getElem?_getD, List.getElem?_eq_getElem hix]; rfl
          have HN := Lib.hid hnx
          have hup : rs[k].xs[j] < n := by omega
          rw [hb1]
          clear hnx hst hhi
          go_wp2_with (go_at_call 125; refine (l1Most_any _ _ _).mono ?_; rintro e w' ⟨rfl, rfl⟩)
          go_round
          case rel => exact ⟨j + 1, by omega, by go_num, by rw [HN.out]⟩
          case measure => simp [intOf]; omega
        · have hjn : j = rs[k].n := by omega
          subst hjn
          have HN : Hid (flat ((rowNums rs).take k) ++ rs[k].xs.take rs[k].n = flat ((rowNums rs).take (k + 1))) := by
            show _ = _
            rw [flat_next hkr, HG.out, List.take_of_length_le (l := rs[k].xs) (by have := HRL.out; omega)]
          go_wp2
          go_round
          case rel => exact ⟨k + 1, by omega, by go_num, by rw [HN.out]⟩
          case measure => simp [intOf]; omega
    · have hkn : k = rs.length := by omega
      subst hkn
      have HE : Hid ((rowNums rs).take rs.length = rowNums rs) := List.take_of_length_le (by rw [rowNums_len]; exact Nat.le_refl _)
      go_wp2
      go_ret
      exact ⟨ret_of (by rw [HE.out]; rfl), below1 w _⟩

/-- The time of a round, 0 where there is none. -/
noncomputable def roundOk (xs : List Int) (s t : Int) (G : List (List Int)) : Bool := isNight xs s t && areGroups xs.length s t G
noncomputable def roundTime (xs : List Int) (s t : Int) (G : List (List Int)) : Int := if roundOk xs s t G then slowOf xs (flat G) else 0
theorem roundTime_no {xs : List Int} {s t : Int} {G : List (List Int)} (h : roundOk xs s t G = false) : roundTime xs s t G = 0 := by rw [roundTime, h]; rfl
theorem roundTime_yes {xs : List Int} {s t : Int} {G : List (List Int)} (h : roundOk xs s t G = true) : roundTime xs s t G = slowOf xs (flat G) := by rw [roundTime, h]; rfl

set_option maxHeartbeats 800000 in
set_option linter.unusedVariables false in
theorem specRoundTime_any (A : Option Addr) (n c : Nat) (xs : List Int) (s t : Int) (D : Option Addr) (q z : Nat) (rs : List RowV) (w : World) (hA : Holds w A (nums xs)) (hx : xs.length = n) (hn : n ≤ 9223372036854775807) (hD : Grid w D rs) (hz : rs.length = q) (hq : q ≤ 9223372036854775807) :
    Calls Try.prog 58 #[.agg #[.slice A n c, .int .i64 s, .int .i64 t], .slice D q z] w fun e w' => e = .returned (.tuple #[.int .i64 (roundTime xs s t (rowNums rs)), .bool (roundOk xs s t (rowNums rs))]) ∧ Below w.heap.size w w' := by
  subst hx
  have HZ := Lib.hid hz
  have h0 := Whole.fresh w 48 #[.slice A xs.length c, .int .i64 s, .int .i64 t]
  have ht := below1 w (.cells #[.slice A xs.length c, .int .i64 s, .int .i64 t] 48)
  clear hz
  cases hp : isNight xs s t
  · have HO : Hid (roundOk xs s t (rowNums rs) = false) := by show _ = _; simp [roundOk, hp]
    have HPP := Lib.hid hp
    clear hp
    go_enter Try.func58, Try.ntmps58
    go_wp2_with fail
    refine (toGood_any A _ c xs s t _ (by exact hA.below ht) rfl hn).mono ?_
    rintro e w1 ⟨rfl, hb⟩
    rw [HPP.out]
    replace ht := below_then ht hb ht.size
    go_wp2
    go_ret2
    exact ⟨by rw [roundTime_no HO.out, HO.out]; rfl, ht⟩
  have HPP := Lib.hid hp
  have hok := isNight_ok hp
  have hn8 : xs.length ≤ 8 := by have := hok.six; omega
  have ht8 : t ≤ 8 := by have := hok.torches; omega
  cases hg : areGroups xs.length s t (rowNums rs)
  · have HO : Hid (roundOk xs s t (rowNums rs) = false) := by show _ = _; simp [roundOk, hg]
    have HGG := Lib.hid hg
    clear hp hg hok
    go_enter Try.func58, Try.ntmps58
    go_wp2_with fail
    refine (toGood_any A _ c xs s t _ (by exact hA.below ht) rfl hn).mono ?_
    rintro e w1 ⟨rfl, hb⟩
    rw [HPP.out]
    replace ht := below_then ht hb ht.size
    replace h0 := h0.below hb
    obtain ⟨c0, c1, c2⟩ := h0.cells3
    clear hb
    go_wp2_with fail
    refine (toGroups_any A _ c xs s t D q z rs _ (by exact hD.below ht) HZ.out hq hn8 ht8).mono ?_
    rintro e w2 ⟨rfl, hb⟩
    rw [HGG.out]
    replace ht := below_then ht hb ht.size
    clear hb c0 c1 c2
    go_wp2
    go_ret2
    exact ⟨by rw [roundTime_no HO.out, HO.out]; rfl, ht⟩
  · have HO : Hid (roundOk xs s t (rowNums rs) = true) := by show _ = _; simp [roundOk, hg, hp]
    have HGG := Lib.hid hg
    have HOK : Hid (OkTo xs.length s (rowNums rs) rs.length) := by have := (groups_ok hg).2; rw [rowNums_len] at this; exact this
    clear hp hg hok
    go_enter Try.func58, Try.ntmps58
    go_wp2_with fail
    refine (toGood_any A _ c xs s t _ (by exact hA.below ht) rfl hn).mono ?_
    rintro e w1 ⟨rfl, hb⟩
    rw [HPP.out]
    replace ht := below_then ht hb ht.size
    replace h0 := h0.below hb
    obtain ⟨c0, c1, c2⟩ := h0.cells3
    clear hb
    go_wp2_with fail
    refine (toGroups_any A _ c xs s t D q z rs _ (by exact hD.below ht) HZ.out hq hn8 ht8).mono ?_
    rintro e w2 ⟨rfl, hb⟩
    rw [HGG.out]
    replace ht := below_then ht hb ht.size
    replace h0 := h0.below hb
    clear hb c0 c1 c2
    obtain ⟨c0, c1, c2⟩ := h0.cells3
    go_wp2_with fail
    refine (toTime_any A _ c xs s t D q z rs _ (by exact hA.below ht) rfl (by exact hD.below ht) HZ.out hq hn8 HOK.out).mono ?_
    rintro e w3 ⟨rfl, hb⟩
    replace ht := below_then ht hb ht.size
    clear hb c0 c1 c2
    go_wp2
    go_ret2
    exact ⟨by rw [roundTime_yes HO.out, HO.out]; rfl, ht⟩
end Go.Proofs.Ytifaadjbkbdbnaa

namespace Go.Proofs.Ytifaadjbkbdbnaa
open Go.RowKit

/-- Two places compared. -/
def sameEight (v0 v1 v2 v3 v4 v5 v6 v7 u0 u1 u2 u3 u4 u5 u6 u7 : Bool) : Bool := v0 == u0 && v1 == u1 && v2 == u2 && v3 == u3 && v4 == u4 && v5 == u5 && v6 == u6 && v7 == u7
def samePlace (v0 v1 v2 v3 v4 v5 v6 v7 v8 u0 u1 u2 u3 u4 u5 u6 u7 u8 : Bool) : Bool := sameEight v0 v1 v2 v3 v4 v5 v6 v7 u0 u1 u2 u3 u4 u5 u6 u7 && v8 == u8
set_option maxHeartbeats 1600000 in
theorem eight_eq (v0 v1 v2 v3 v4 v5 v6 v7 u0 u1 u2 u3 u4 u5 u6 u7 : Bool) (w : World) : (Op.equalIn 9998 90 (.agg #[.bool v0, .bool v1, .bool v2, .bool v3, .bool v4, .bool v5, .bool v6, .bool v7]) (.agg #[.bool u0, .bool u1, .bool u2, .bool u3, .bool u4, .bool u5, .bool u6, .bool u7])).run Try.prog w = .ok (sameEight v0 v1 v2 v3 v4 v5 v6 v7 u0 u1 u2 u3 u4 u5 u6 u7) w := by
  unfold sameEight
  have uB := Try.underlying4
  have aB := Try.isAgg4
  have zB := Try.sizeOf4
  rw [show (9998 : Nat) = 9997 + 1 from rfl, Op.equalIn]
  simp only [Sem.run_bind, run_underlying Try.underlying90, Result.andThen_ok]
  simp only [Std.Legacy.Range.forIn_eq_forIn_range', Std.Legacy.Range.size, Nat.sub_zero, Nat.add_sub_cancel, Nat.div_one, List.range'_succ, List.range'_zero, List.forIn_cons, List.forIn_nil]
  go_simp
  by_cases h0 : v0 = u0
  case neg => simp [h0]
  case pos =>
    subst h0
    by_cases h1 : v1 = u1
    case neg => simp [h1]
    case pos =>
      subst h1
      by_cases h2 : v2 = u2
      case neg => simp [h2]
      case pos =>
        subst h2
        by_cases h3 : v3 = u3
        case neg => simp [h3]
        case pos =>
          subst h3
          by_cases h4 : v4 = u4
          case neg => simp [h4]
          case pos =>
            subst h4
            by_cases h5 : v5 = u5
            case neg => simp [h5]
            case pos =>
              subst h5
              by_cases h6 : v6 = u6
              case neg => simp [h6]
              case pos =>
                subst h6
                by_cases h7 : v7 = u7
                case neg => simp [h7]
                case pos =>
                  subst h7
                  simp
set_option maxHeartbeats 1600000 in
@[go_sem high] theorem place_eq (v0 v1 v2 v3 v4 v5 v6 v7 v8 u0 u1 u2 u3 u4 u5 u6 u7 u8 : Bool) (w : World) : (Op.equalIn 10000 94 (.agg #[.bool v0, .bool v1, .bool v2, .bool v3, .bool v4, .bool v5, .bool v6, .bool v7, .bool v8]) (.agg #[.bool u0, .bool u1, .bool u2, .bool u3, .bool u4, .bool u5, .bool u6, .bool u7, .bool u8])).run Try.prog w = .ok (samePlace v0 v1 v2 v3 v4 v5 v6 v7 v8 u0 u1 u2 u3 u4 u5 u6 u7 u8) w := by
  have h := eight_eq v0 v1 v2 v3 v4 v5 v6 v7 u0 u1 u2 u3 u4 u5 u6 u7
  unfold samePlace
  generalize sameEight v0 v1 v2 v3 v4 v5 v6 v7 u0 u1 u2 u3 u4 u5 u6 u7 = b at h ⊢
  go_simp
  by_cases h8 : v8 = u8 <;> cases b <;> simp [h8]

theorem sameBits_ext {bs cs : List Bool} (hl : bs.length = cs.length) (h8 : bs.length ≤ 8) : sameEight (bs.getD 0 false) (bs.getD 1 false) (bs.getD 2 false) (bs.getD 3 false) (bs.getD 4 false) (bs.getD 5 false) (bs.getD 6 false) (bs.getD 7 false) (cs.getD 0 false) (cs.getD 1 false) (cs.getD 2 false) (cs.getD 3 false) (cs.getD 4 false) (cs.getD 5 false) (cs.getD 6 false) (cs.getD 7 false) = sameBits bs cs := by
  by_cases h : bs = cs
  · subst h
    rw [sameBits_yes rfl]
    simp [sameEight]
  · rw [sameBits_no h]
    cases hs : sameEight (bs.getD 0 false) (bs.getD 1 false) (bs.getD 2 false) (bs.getD 3 false) (bs.getD 4 false) (bs.getD 5 false) (bs.getD 6 false) (bs.getD 7 false) (cs.getD 0 false) (cs.getD 1 false) (cs.getD 2 false) (cs.getD 3 false) (cs.getD 4 false) (cs.getD 5 false) (cs.getD 6 false) (cs.getD 7 false)
    · rfl
    · exfalso
      apply h
      simp only [sameEight, Bool.and_eq_true, beq_iff_eq] at hs
      obtain ⟨⟨⟨⟨⟨⟨⟨e0, e1⟩, e2⟩, e3⟩, e4⟩, e5⟩, e6⟩, e7⟩ := hs
      apply List.ext_getElem hl
      intro i h1 h2
      have g : ∀ (l : List Bool) (h : i < l.length), l[i] = l.getD i false := fun l h => by simp [h]
      rw [g bs h1, g cs h2]
      match i, h1 with
      | 0, _ => exact e0
      | 1, _ => exact e1
      | 2, _ => exact e2
      | 3, _ => exact e3
      | 4, _ => exact e4
      | 5, _ => exact e5
      | 6, _ => exact e6
      | 7, _ => exact e7
      | k + 8, h => omega
end Go.Proofs.Ytifaadjbkbdbnaa

namespace Go.Proofs.Ytifaadjbkbdbnaa
open Go.RowKit

theorem index8 (f : Nat → Bool) {k : Nat} (h : k < 8) (w : World) : (Instr.index 90 (.agg #[.bool (f 0), .bool (f 1), .bool (f 2), .bool (f 3), .bool (f 4), .bool (f 5), .bool (f 6), .bool (f 7)]) (.int .i64 k)).run Try.prog w = .ok (.bool (f k)) w :=
  match k, h with
  | 0, _ => by kernel_rfl
  | 1, _ => by kernel_rfl
  | 2, _ => by kernel_rfl
  | 3, _ => by kernel_rfl
  | 4, _ => by kernel_rfl
  | 5, _ => by kernel_rfl
  | 6, _ => by kernel_rfl
  | 7, _ => by kernel_rfl
theorem cells8_one (f : Nat → Bool) : (cells8 f).all (·.oneCell') = true := by simp [cells8, Value.oneCell']
theorem size_crowd8 : (Try.prog.info? 92).map (·.size) = some 8 := by kernel_rfl
theorem cells8_cells {w : World} {g : Nat} {ty : TypeId} {f : Nat → Bool} (h : Whole w g ty (cells8 f)) :
    w.cell? ⟨g, 0, none⟩ = some (.bool (f 0)) ∧ w.cell? ⟨g, 1, none⟩ = some (.bool (f 1)) ∧ w.cell? ⟨g, 2, none⟩ = some (.bool (f 2)) ∧ w.cell? ⟨g, 3, none⟩ = some (.bool (f 3)) ∧
    w.cell? ⟨g, 4, none⟩ = some (.bool (f 4)) ∧ w.cell? ⟨g, 5, none⟩ = some (.bool (f 5)) ∧ w.cell? ⟨g, 6, none⟩ = some (.bool (f 6)) ∧ w.cell? ⟨g, 7, none⟩ = some (.bool (f 7)) :=
  ⟨h.cell 0, h.cell 1, h.cell 2, h.cell 3, h.cell 4, h.cell 5, h.cell 6, h.cell 7⟩

/-- The first k people have been looked at. -/
def withTo (f g : Nat → Bool) (k i : Nat) : Bool := if i < k then f i && !g i else f i
theorem with_zero (f g : Nat → Bool) : withTo f g 0 = f := by funext i; simp [withTo]
theorem with_all (f g : Nat → Bool) : cells8 (withTo f g 8) = cells8 (fun i => f i && !g i) := by simp [cells8, withTo]
theorem with_here (f g : Nat → Bool) (k : Nat) : withTo f g k k = f k := by simp [withTo]
theorem with_set (f g : Nat → Bool) {k : Nat} (h : k < 8) : (cells8 (withTo f g k)).setIfInBounds k (.bool (f k && !g k)) = cells8 (withTo f g (k + 1)) := by
  have h1 : withTo f g (k + 1) k = (f k && !g k) := by simp [withTo]
  have hh : ∀ i, i ≠ k → withTo f g (k + 1) i = withTo f g k i := by
    intro i hi
    unfold withTo
    by_cases h1 : i < k
    · rw [if_pos h1, if_pos (by omega)]
    · rw [if_neg h1, if_neg (by omega)]
  rw [← h1]
  unfold cells8
  match k, h with
  | 0, _ => simp [hh]
  | 1, _ => simp [hh]
  | 2, _ => simp [hh]
  | 3, _ => simp [hh]
  | 4, _ => simp [hh]
  | 5, _ => simp [hh]
  | 6, _ => simp [hh]
  | 7, _ => simp [hh]

set_option maxHeartbeats 3200000 in
theorem without_any (f g : Nat → Bool) (w : World) :
    Calls Try.prog 135 #[.agg (cells8 f), .agg (cells8 g)] w fun e w' => e = .returned (.agg (cells8 (fun i => f i && !g i))) ∧ Below w.heap.size w w' := by
  have h0 := ((Whole.fresh w 92 (cells8 f)).alloc (.cells (cells8 g) 92)).alloc (.cells (cells8 (fun _ => false)) 92)
  have h2 := Whole.fresh ((w.alloc (.cells (cells8 f) 92)).alloc (.cells (cells8 g) 92)) 92 (cells8 (fun _ => false))
  simp only [World.size_alloc] at h2
  have hb := below3 w (.cells (cells8 f) 92) (.cells (cells8 g) 92) (.cells (cells8 (fun _ => false)) 92)
  have H0 := Lib.hid h0
  have HZ := Lib.hid (with_zero f g)
  have H2 := Lib.hid h2
  have HB := Lib.hid hb
  have HEND := Lib.hid (with_all f g)
  clear h0 h2 hb
  unfold cells8
  go_enter Try.func135, Try.ntmps135
  go_wp2
  go_loopw [9] (fun i wr => ∃ k : Nat, k ≤ 8 ∧ i = .int .i64 k ∧ Whole wr w.heap.size 92 (cells8 (withTo f g k)) ∧ Whole wr (w.heap.size + 1 + 1) 92 (cells8 (fun _ => false)) ∧ Below w.heap.size w wr) (fun i _ => 8 - (intOf i).toNat)
  case atStart => exact ⟨0, Nat.zero_le _, rfl, by rw [HZ.out]; exact H0.out, H2.out, HB.out⟩
  case round =>
    obtain ⟨k, hk, rfl, g0, g2, hb⟩ := hrel
    clear H0 H2 HB
    have hl0 := g0.lt
    have hl2 := g2.lt
    by_cases hlt : k < 8
    · have hix := index8 g hlt
      have hkk : (k : Int) < 8 := by omega
      have hcell := (g0.cell k).trans (cells8_at (withTo f g k) hlt)
      rw [with_here] at hcell
      have hfr := g0.open_ k
      have hs := g0.set_ k (.bool (f k && !g k))
      rw [with_set f g hlt] at hs
      have HF := Lib.hid (g2.off (b := w.heap.size) (o := k) (u := .bool (f k && !g k)) (by omega))
      cases hp : f k <;> cases hq : g k
      all_goals
        rw [hq] at hix
        rw [hp] at hcell
        rw [hp, hq] at hs HF
        have HS := Lib.hid hs
        clear hs hp hq
        go_wp2
        go_roundw
        case rel => exact ⟨k + 1, by omega, by go_num, HS.out, HF.out, below_set hb (Nat.le_refl _)⟩
        case measure => simp [intOf]; omega
    · have hk8 : k = 8 := by omega
      subst hk8
      rw [HEND.out] at g0
      go_wp2_with (first | (refine wpList_load_row rfl 92 (.tmp 2) rfl w.heap.size rfl 92 (cells8 (fun i => f i && !g i)) (0, 0) _ g0 Try.underlying92 rfl size_crowd8 ?_) | (refine wpList_store_whole rfl 92 (.tmp 4) (.tmp 25) rfl (w.heap.size + 1 + 1) (cells8 (fun i => f i && !g i)) rfl rfl 92 (cells8 (fun _ => false)) g2 size_crowd8 rfl (cells8_one _) ?_; intro w2 hw2 ho2))
      have hb2 := ho2.below hb (by omega)
      obtain ⟨r0, r1, r2, r3, r4, r5, r6, r7⟩ := cells8_cells hw2
      refine bodyPost_ret (v := .agg (cells8 (fun i => f i && !g i))) (by simp [results, Try.results135, go_sem, r0, r1, r2, r3, r4, r5, r6, r7, cells8]) rfl ⟨rfl, hb2⟩
end Go.Proofs.Ytifaadjbkbdbnaa

namespace Go.Proofs.Ytifaadjbkbdbnaa
open Go.RowKit

def joinTo (f g : Nat → Bool) (k i : Nat) : Bool := if i < k then f i || g i else f i
theorem join_zero (f g : Nat → Bool) : joinTo f g 0 = f := by funext i; simp [joinTo]
theorem join_all (f g : Nat → Bool) : cells8 (joinTo f g 8) = cells8 (fun i => f i || g i) := by simp [cells8, joinTo]
theorem join_here (f g : Nat → Bool) (k : Nat) : joinTo f g k k = f k := by simp [joinTo]
theorem join_set (f g : Nat → Bool) {k : Nat} (h : k < 8) : (cells8 (joinTo f g k)).setIfInBounds k (.bool (f k || g k)) = cells8 (joinTo f g (k + 1)) := by
  have h1 : joinTo f g (k + 1) k = (f k || g k) := by simp [joinTo]
  have hh : ∀ i, i ≠ k → joinTo f g (k + 1) i = joinTo f g k i := by
    intro i hi
    unfold joinTo
    by_cases h1 : i < k
    · rw [if_pos h1, if_pos (by omega)]
    · rw [if_neg h1, if_neg (by omega)]
  rw [← h1]
  unfold cells8
  match k, h with
  | 0, _ => simp [hh]
  | 1, _ => simp [hh]
  | 2, _ => simp [hh]
  | 3, _ => simp [hh]
  | 4, _ => simp [hh]
  | 5, _ => simp [hh]
  | 6, _ => simp [hh]
  | 7, _ => simp [hh]

set_option maxHeartbeats 3200000 in
theorem with_any (f g : Nat → Bool) (w : World) :
    Calls Try.prog 136 #[.agg (cells8 f), .agg (cells8 g)] w fun e w' => e = .returned (.agg (cells8 (fun i => f i || g i))) ∧ Below w.heap.size w w' := by
  have h0 := ((Whole.fresh w 92 (cells8 f)).alloc (.cells (cells8 g) 92)).alloc (.cells (cells8 (fun _ => false)) 92)
  have h2 := Whole.fresh ((w.alloc (.cells (cells8 f) 92)).alloc (.cells (cells8 g) 92)) 92 (cells8 (fun _ => false))
  simp only [World.size_alloc] at h2
  have hb := below3 w (.cells (cells8 f) 92) (.cells (cells8 g) 92) (.cells (cells8 (fun _ => false)) 92)
  have H0 := Lib.hid h0
  have HZ := Lib.hid (join_zero f g)
  have H2 := Lib.hid h2
  have HB := Lib.hid hb
  have HEND := Lib.hid (join_all f g)
  clear h0 h2 hb
  unfold cells8
  go_enter Try.func136, Try.ntmps136
  go_wp2
  go_loopw [9] (fun i wr => ∃ k : Nat, k ≤ 8 ∧ i = .int .i64 k ∧ Whole wr w.heap.size 92 (cells8 (joinTo f g k)) ∧ Whole wr (w.heap.size + 1 + 1) 92 (cells8 (fun _ => false)) ∧ Below w.heap.size w wr) (fun i _ => 8 - (intOf i).toNat)
  case atStart => exact ⟨0, Nat.zero_le _, rfl, by rw [HZ.out]; exact H0.out, H2.out, HB.out⟩
  case round =>
    obtain ⟨k, hk, rfl, g0, g2, hb⟩ := hrel
    clear H0 H2 HB
    have hl0 := g0.lt
    have hl2 := g2.lt
    by_cases hlt : k < 8
    · have hix := index8 g hlt
      have hkk : (k : Int) < 8 := by omega
      have hcell := (g0.cell k).trans (cells8_at (joinTo f g k) hlt)
      rw [join_here] at hcell
      have hfr := g0.open_ k
      have hs := g0.set_ k (.bool (f k || g k))
      rw [join_set f g hlt] at hs
      have HF := Lib.hid (g2.off (b := w.heap.size) (o := k) (u := .bool (f k || g k)) (by omega))
      cases hp : f k <;> cases hq : g k
      all_goals
        rw [hq] at hix
        rw [hp] at hcell
        rw [hp, hq] at hs HF
        have HS := Lib.hid hs
        clear hs hp hq
        go_wp2
        go_roundw
        case rel => exact ⟨k + 1, by omega, by go_num, HS.out, HF.out, below_set hb (Nat.le_refl _)⟩
        case measure => simp [intOf]; omega
    · have hk8 : k = 8 := by omega
      subst hk8
      rw [HEND.out] at g0
      go_wp2_with (first | (refine wpList_load_row rfl 92 (.tmp 2) rfl w.heap.size rfl 92 (cells8 (fun i => f i || g i)) (0, 0) _ g0 Try.underlying92 rfl size_crowd8 ?_) | (refine wpList_store_whole rfl 92 (.tmp 4) (.tmp 24) rfl (w.heap.size + 1 + 1) (cells8 (fun i => f i || g i)) rfl rfl 92 (cells8 (fun _ => false)) g2 size_crowd8 rfl (cells8_one _) ?_; intro w2 hw2 ho2))
      have hb2 := ho2.below hb (by omega)
      obtain ⟨r0, r1, r2, r3, r4, r5, r6, r7⟩ := cells8_cells hw2
      refine bodyPost_ret (v := .agg (cells8 (fun i => f i || g i))) (by simp [results, Try.results136, go_sem, r0, r1, r2, r3, r4, r5, r6, r7, cells8]) rfl ⟨rfl, hb2⟩

theorem has_append (a b : List Int) (i : Nat) : has (a ++ b) i = (has a i || has b i) := by simp [has, List.any_append]
/-- The eight cells of a crowd, as they are read. -/
def RowG (g : Nat) (f : Nat → Bool) (w : World) : Prop :=
  w.cell? ⟨g, 0, none⟩ = some (.bool (f 0)) ∧ w.cell? ⟨g, 1, none⟩ = some (.bool (f 1)) ∧ w.cell? ⟨g, 2, none⟩ = some (.bool (f 2)) ∧ w.cell? ⟨g, 3, none⟩ = some (.bool (f 3)) ∧
  w.cell? ⟨g, 4, none⟩ = some (.bool (f 4)) ∧ w.cell? ⟨g, 5, none⟩ = some (.bool (f 5)) ∧ w.cell? ⟨g, 6, none⟩ = some (.bool (f 6)) ∧ w.cell? ⟨g, 7, none⟩ = some (.bool (f 7))
theorem rowG {w : World} {g : Nat} {ty : TypeId} {f : Nat → Bool} (h : Whole w g ty (cells8 f)) : RowG g f w := ⟨h.cell 0, h.cell 1, h.cell 2, h.cell 3, h.cell 4, h.cell 5, h.cell 6, h.cell 7⟩
theorem crowdsG_at {ls : List (List Int)} {k j : Nat} (hk : k < ls.length) (hj : j < 8) : (crowdsOf ls)[k * 8 + j]? = some (.bool (has ls[k] j)) := by
  induction ls generalizing k with
  | nil => simp at hk
  | cons l ls ih =>
    have h8 : (crowdCells l).toList.length = 8 := by simp [crowdCells]
    simp only [crowdsOf, List.flatMap_cons]
    cases k with
    | zero =>
      rw [List.getElem?_append_left (by rw [h8]; omega)]
      simp only [Nat.zero_mul, Nat.zero_add, List.getElem_cons_zero]
      match j, hj with
      | 0, _ => rfl
      | 1, _ => rfl
      | 2, _ => rfl
      | 3, _ => rfl
      | 4, _ => rfl
      | 5, _ => rfl
      | 6, _ => rfl
      | 7, _ => rfl
    | succ k =>
      rw [List.getElem?_append_right (by rw [h8]; omega), h8]
      have := ih (k := k) (by simpa using hk)
      simp only [List.getElem_cons_succ]
      rw [← this, crowdsOf]
      congr 1
      omega
theorem crowdG_row {w : World} {b o : Nat} {ls : List (List Int)} {k : Nat} (h : ∀ j u, (crowdsOf ls)[j]? = some u → w.cell? ⟨b, o + j, none⟩ = some u) (hk : k < ls.length) :
    w.cell? ⟨b, o + k * 8, none⟩ = some (.bool (has ls[k] 0)) ∧ w.cell? ⟨b, o + k * 8 + 1, none⟩ = some (.bool (has ls[k] 1)) ∧ w.cell? ⟨b, o + k * 8 + 2, none⟩ = some (.bool (has ls[k] 2)) ∧ w.cell? ⟨b, o + k * 8 + 3, none⟩ = some (.bool (has ls[k] 3)) ∧ w.cell? ⟨b, o + k * 8 + 4, none⟩ = some (.bool (has ls[k] 4)) ∧ w.cell? ⟨b, o + k * 8 + 5, none⟩ = some (.bool (has ls[k] 5)) ∧ w.cell? ⟨b, o + k * 8 + 6, none⟩ = some (.bool (has ls[k] 6)) ∧ w.cell? ⟨b, o + k * 8 + 7, none⟩ = some (.bool (has ls[k] 7)) :=
  ⟨h _ _ (crowdsG_at hk (j := 0) (by omega)), by rw [Nat.add_assoc]; exact h _ _ (crowdsG_at hk (j := 1) (by omega)), by rw [Nat.add_assoc]; exact h _ _ (crowdsG_at hk (j := 2) (by omega)), by rw [Nat.add_assoc]; exact h _ _ (crowdsG_at hk (j := 3) (by omega)), by rw [Nat.add_assoc]; exact h _ _ (crowdsG_at hk (j := 4) (by omega)), by rw [Nat.add_assoc]; exact h _ _ (crowdsG_at hk (j := 5) (by omega)), by rw [Nat.add_assoc]; exact h _ _ (crowdsG_at hk (j := 6) (by omega)), by rw [Nat.add_assoc]; exact h _ _ (crowdsG_at hk (j := 7) (by omega))⟩
/-- Where a list of crowds lies, it is read as they are. -/
theorem own_holdsG {w : World} {base size : Nat} {e : TypeId} {T : Option Addr} {n c : Nat} {xs : List Value} (h : w.ownsRow base e size (.slice T n c) n xs) : Holds w T xs := by
  obtain ⟨hl, ⟨-, hn⟩ | ⟨g, cap, cur, hv, -, hh, h1, h2, h3, h4⟩⟩ := h
  · subst hn
    exact .inl (List.eq_nil_of_length_eq_zero (by simpa using hl))
  · obtain ⟨rfl, -⟩ : T = some ⟨g, 0, none⟩ ∧ c = cap := by simpa using hv
    have hw : Whole w g e cur := hh
    refine .inr ⟨g, 0, rfl, hw.lt, fun j u hu => ?_⟩
    have hj : j < xs.length := (List.getElem?_eq_some_iff.1 hu).1
    rw [Nat.zero_add, hw.cell j, ← hu]
    rw [hl] at hj
    have := congrArg (fun l : List Value => l[j]?) h4
    simpa [List.getElem?_take, hj] using this

set_option maxHeartbeats 1600000 in
theorem eight_eq9 (v0 v1 v2 v3 v4 v5 v6 v7 u0 u1 u2 u3 u4 u5 u6 u7 : Bool) (w : World) : (Op.equalIn 9999 90 (.agg #[.bool v0, .bool v1, .bool v2, .bool v3, .bool v4, .bool v5, .bool v6, .bool v7]) (.agg #[.bool u0, .bool u1, .bool u2, .bool u3, .bool u4, .bool u5, .bool u6, .bool u7])).run Try.prog w = .ok (sameEight v0 v1 v2 v3 v4 v5 v6 v7 u0 u1 u2 u3 u4 u5 u6 u7) w := by
  unfold sameEight
  have uB := Try.underlying4
  have aB := Try.isAgg4
  have zB := Try.sizeOf4
  rw [show (9999 : Nat) = 9998 + 1 from rfl, Op.equalIn]
  simp only [Sem.run_bind, run_underlying Try.underlying90, Result.andThen_ok]
  simp only [Std.Legacy.Range.forIn_eq_forIn_range', Std.Legacy.Range.size, Nat.sub_zero, Nat.add_sub_cancel, Nat.div_one, List.range'_succ, List.range'_zero, List.forIn_cons, List.forIn_nil]
  go_simp
  by_cases h0 : v0 = u0
  case neg => simp [h0]
  case pos =>
    subst h0
    by_cases h1 : v1 = u1
    case neg => simp [h1]
    case pos =>
      subst h1
      by_cases h2 : v2 = u2
      case neg => simp [h2]
      case pos =>
        subst h2
        by_cases h3 : v3 = u3
        case neg => simp [h3]
        case pos =>
          subst h3
          by_cases h4 : v4 = u4
          case neg => simp [h4]
          case pos =>
            subst h4
            by_cases h5 : v5 = u5
            case neg => simp [h5]
            case pos =>
              subst h5
              by_cases h6 : v6 = u6
              case neg => simp [h6]
              case pos =>
                subst h6
                by_cases h7 : v7 = u7
                case neg => simp [h7]
                case pos =>
                  subst h7
                  simp
set_option maxHeartbeats 1600000 in
@[go_sem high] theorem crowd_eq (v0 v1 v2 v3 v4 v5 v6 v7 u0 u1 u2 u3 u4 u5 u6 u7 : Bool) (w : World) : (Op.equalIn 10000 92 (.agg #[.bool v0, .bool v1, .bool v2, .bool v3, .bool v4, .bool v5, .bool v6, .bool v7]) (.agg #[.bool u0, .bool u1, .bool u2, .bool u3, .bool u4, .bool u5, .bool u6, .bool u7])).run Try.prog w = .ok (sameEight v0 v1 v2 v3 v4 v5 v6 v7 u0 u1 u2 u3 u4 u5 u6 u7) w := by
  have h := eight_eq9 v0 v1 v2 v3 v4 v5 v6 v7 u0 u1 u2 u3 u4 u5 u6 u7
  generalize sameEight v0 v1 v2 v3 v4 v5 v6 v7 u0 u1 u2 u3 u4 u5 u6 u7 = b at h ⊢
  go_simp
  first | done | (cases b <;> simp)

def apartAt (G : List (List Int)) (k : Nat) : Bool := !meets (flat (G.take k)) (G.getD k [])
/-- No two lists have anybody in common. -/
def apartG (G : List (List Int)) : Bool := (List.range G.length).all (apartAt G)
theorem apartG_no {G : List (List Int)} {k : Nat} (hk : k < G.length) (h : meets (flat (G.take k)) G[k] = true) : apartG G = false := by
  cases he : apartG G
  · rfl
  · rw [apartG, List.all_eq_true] at he
    have := he k (List.mem_range.2 hk)
    rw [apartAt, getG hk, h] at this; cases this
theorem apartG_yes {G : List (List Int)} (h : ∀ k, k < G.length → apartAt G k = true) : apartG G = true := by
  rw [apartG, List.all_eq_true]; exact fun k hk => h k (List.mem_range.1 hk)
theorem apartG_at {G : List (List Int)} (h : apartG G = true) {k : Nat} (hk : k < G.length) : meets (flat (G.take k)) G[k] = false := by
  rw [apartG, List.all_eq_true] at h
  have := h k (List.mem_range.2 hk)
  rw [apartAt, getG hk, Bool.not_eq_true'] at this; exact this
theorem apartAt_yes {G : List (List Int)} {k : Nat} (hk : k < G.length) (h : meets (flat (G.take k)) G[k] = false) : apartAt G k = true := by
  rw [apartAt, getG hk, h]; rfl
theorem same_meets (b l : List Int) : sameEight (has l 0 && !has b 0) (has l 1 && !has b 1) (has l 2 && !has b 2) (has l 3 && !has b 3) (has l 4 && !has b 4) (has l 5 && !has b 5) (has l 6 && !has b 6) (has l 7 && !has b 7) (has l 0) (has l 1) (has l 2) (has l 3) (has l 4) (has l 5) (has l 6) (has l 7) = !meets b l := by
  have e : ∀ x y : Bool, (((x && !y) == x) : Bool) = !(y && x) := by decide
  simp only [sameEight, e]
  simp only [meets, show List.range 8 = [0, 1, 2, 3, 4, 5, 6, 7] from rfl, List.any_cons, List.any_nil, Bool.or_false, Bool.not_or, Bool.and_assoc]
theorem size_crowdG : (Try.prog.info? 92).map (·.size) = some 8 := by kernel_rfl

set_option maxHeartbeats 6400000 in
set_option maxRecDepth 100000 in
set_option linter.unusedVariables false in
theorem areApart_any (T : Option Addr) (q c : Nat) (ls : List (List Int)) (w : World) (hT : Holds w T (crowdsOf ls)) (hq : ls.length = q) (hq8 : q ≤ 1048576) :
    Calls Try.prog 116 #[.slice T q c] w fun e w' => e = .returned (.bool (apartG ls)) ∧ Below w.heap.size w w' := by
  subst hq
  have h0 := Whole.fresh w 92 (cells8 (has []))
  have hb0 := below1 w (.cells (cells8 (has [])) 92)
  have H0 := Lib.hid h0
  have HB0 := Lib.hid hb0
  clear h0 hb0
  go_enter Try.func116, Try.ntmps116
  go_wp2
  go_loopw [8] (fun i wr => ∃ k : Nat, k ≤ ls.length ∧ i = .int .i64 k ∧ Whole wr w.heap.size 92 (cells8 (has (flat (ls.take k)))) ∧ Below w.heap.size w wr ∧ ∀ j, j < k → apartAt ls j = true) (fun i _ => ls.length - (intOf i).toNat)
  case atStart => exact ⟨0, Nat.zero_le _, rfl, H0.out, HB0.out, fun j hj => absurd hj (by omega)⟩
  case round =>
    obtain ⟨k, hk, rfl, hB, ht, hok⟩ := hrel
    clear H0 HB0
    have HOK := Lib.hid hok
    clear hok
    by_cases hlt : k < ls.length
    · obtain ⟨b1, o1, rfl, hbl1, hcells⟩ := (hT.below ht).spot (by rw [crowdsOf_len]; omega)
      obtain ⟨e0, e1, e2, e3, e4, e5, e6, e7⟩ := crowdG_row hcells hlt
      have HNO := Lib.hid (fun h => apartG_no (k := k) hlt h)
      have HYES := Lib.hid (fun h => apartAt_yes (k := k) hlt h)
      have HFN := Lib.hid (flat_next hlt)
      have hSM := same_meets (flat (ls.take k)) ls[k]
      obtain ⟨l, hl⟩ : ∃ l, l = ls[k] := ⟨_, rfl⟩
      obtain ⟨b, hbd⟩ : ∃ b, b = flat (ls.take k) := ⟨_, rfl⟩
      rw [← hl] at e0 e1 e2 e3 e4 e5 e6 e7 HNO HYES HFN hSM
      rw [← hbd] at HNO HYES HFN hSM hB
      clear hl hbd hcells
      have hx := Whole.fresh wr 92 (cells8 (has l))
      have hlb := hB.lt
      replace hB := hB.alloc (.cells (cells8 (has l)) 92)
      have hsz := ht.size
      replace ht := ht.alloc ht.size (.cells (cells8 (has l)) 92)
      cases hm : meets b l
      · have HSM := Lib.hid (hSM.trans (congrArg _ hm))
        have HAT := Lib.hid (HYES.out hm)
        clear hSM hm HNO HYES
        unfold cells8 at hB hx ht
        go_wp2_with fail
        refine wp_region_held_drew (S := (fun w' => RowG wr.heap.size (has l) w' ∧ RowG w.heap.size (has b) w')) (by kernel_rfl) ⟨rowG hx.drew, rowG hB.drew⟩ (fun hHeld => ?_)
        replace hB := hB.drew
        replace hx := hx.drew
        replace ht := ht.drew
        generalize hwd : World.drew (World.alloc wr (.cells #[.bool (has l 0), .bool (has l 1), .bool (has l 2), .bool (has l 3), .bool (has l 4), .bool (has l 5), .bool (has l 6), .bool (has l 7)] 92)) = wd at hB hx ht hHeld ⊢
        clear hwd
        refine wpAnyH_take (i := 0) (v := ?_) rfl (by kernel_rfl) (by kernel_rfl) (by kernel_rfl) (fun _ _ _ h => h) (Or.inl ⟨rfl, ?_⟩) hHeld ?_
        rotate_left
        · intro w' hS; obtain ⟨⟨s0, s1, s2, s3, s4, s5, s6, s7⟩, ⟨q0, q1, q2, q3, q4, q5, q6, q7⟩⟩ := hS; go_simp <;> with_reducible rfl
        simp only [Act.put, List.getElem_toArray, List.getElem_cons_succ, List.getElem_cons_zero, List.setIfInBounds_toArray, List.set_cons_succ, List.set_cons_zero]
        refine wpAnyH_take (i := 1) (v := ?_) rfl (by kernel_rfl) (by kernel_rfl) (by kernel_rfl) (fun _ _ _ h => h) (Or.inl ⟨rfl, ?_⟩) hHeld ?_
        rotate_left
        · intro w' hS; obtain ⟨⟨s0, s1, s2, s3, s4, s5, s6, s7⟩, ⟨q0, q1, q2, q3, q4, q5, q6, q7⟩⟩ := hS; go_simp <;> with_reducible rfl
        simp only [Act.put, List.getElem_toArray, List.getElem_cons_succ, List.getElem_cons_zero, List.setIfInBounds_toArray, List.set_cons_succ, List.set_cons_zero]
        refine wpAnyH_take (i := 3) (v := ?_) rfl (by kernel_rfl) (by kernel_rfl) (by kernel_rfl) (fun _ _ _ h => h) (Or.inl ⟨rfl, ?_⟩) hHeld ?_
        rotate_left
        · intro w' hS; obtain ⟨⟨s0, s1, s2, s3, s4, s5, s6, s7⟩, ⟨q0, q1, q2, q3, q4, q5, q6, q7⟩⟩ := hS; go_simp <;> with_reducible rfl
        simp only [Act.put, List.getElem_toArray, List.getElem_cons_succ, List.getElem_cons_zero, List.setIfInBounds_toArray, List.set_cons_succ, List.set_cons_zero]
        refine wpAnyH_ready (rs := [2]) (by kernel_rfl) (by simp) (AllReadyH.cons rfl (fun K hK => ?_) AllReadyH.nil)
        go_simp
        have hwo := without_any (has l) (has b) wd
        unfold cells8 at hwo
        refine hwo.mono ?_
        clear hwo
        rintro e w5 ⟨rfl, hbb⟩
        replace hB := hB.below hbb
        replace hx := hx.below hbb
        have hz5 := hbb.size
        replace ht := below_then ht hbb ht.size
        clear hbb
        refine hK.out _ _ ⟨rowG hx, rowG hB⟩ (fun hHeld => ?_)
        clear hK K
        try simp only [Act.put, List.getElem_toArray, List.getElem_cons_succ, List.getElem_cons_zero, List.setIfInBounds_toArray, List.set_cons_succ, List.set_cons_zero]
        refine wpAnyH_take (i := 4) (v := ?_) rfl (by kernel_rfl) (by kernel_rfl) (by kernel_rfl) (fun _ _ _ h => h) (Or.inl ⟨rfl, ?_⟩) hHeld ?_
        rotate_left
        · intro w' hS; obtain ⟨⟨s0, s1, s2, s3, s4, s5, s6, s7⟩, ⟨q0, q1, q2, q3, q4, q5, q6, q7⟩⟩ := hS; go_simp <;> with_reducible rfl
        simp only [Act.put, List.getElem_toArray, List.getElem_cons_succ, List.getElem_cons_zero, List.setIfInBounds_toArray, List.set_cons_succ, List.set_cons_zero]
        refine wpAnyH_done (by kernel_rfl) ?_ _
        clear hHeld
        rw [HSM.out]
        have hlx := hx.lt
        have hwt := with_any (has b) (has l) w5
        unfold cells8 at hwt
        obtain ⟨x0, x1, x2, x3, x4, x5, x6, x7⟩ := rowG hx
        obtain ⟨y0, y1, y2, y3, y4, y5, y6, y7⟩ := rowG hB
        go_wp2_with fail
        refine hwt.mono ?_
        clear hwt x0 x1 x2 x3 x4 x5 x6 x7 y0 y1 y2 y3 y4 y5 y6 y7
        rintro e w6 ⟨rfl, hb6⟩
        replace hB := hB.below hb6
        replace ht := below_then ht hb6 ht.size
        go_wp2_with (refine wpList_store_whole rfl 92 (.tmp 3) (.tmp 19) rfl w.heap.size (cells8 (fun i => has b i || has l i)) rfl rfl 92 _ hB size_crowdG rfl (cells8_one _) ?_; intro w7 hw7 ho7)
        have hbb := ho7.below ht (Nat.le_refl _)
        have hw8 : Whole w7 w.heap.size 92 (cells8 (has (flat (ls.take (k + 1))))) := by
          rw [HFN.out]
          have h9 : (fun i => has b i || has l i) = has (b ++ l) := by funext i; rw [has_append]
          rw [h9] at hw7; exact hw7
        have HW8 := Lib.hid hw8
        have HBB := Lib.hid hbb
        clear hw7 hw8 hbb ho7 hb6 hx hB ht
        go_wp2
        go_roundw
        case rel => exact ⟨k + 1, by omega, by go_num, HW8.out, HBB.out, fun j hj => by
          rcases Nat.lt_or_ge j k with h1 | h1
          · exact HOK.out j h1
          · obtain rfl : j = k := by omega
            exact HAT.out⟩
        case measure => simp [intOf]; omega
      · have HSM := Lib.hid (hSM.trans (congrArg _ hm))
        have HP := Lib.hid (HNO.out hm)
        clear hSM hm HNO HYES
        unfold cells8 at hB hx ht
        go_wp2_with fail
        refine wp_region_held_drew (S := (fun w' => RowG wr.heap.size (has l) w' ∧ RowG w.heap.size (has b) w')) (by kernel_rfl) ⟨rowG hx.drew, rowG hB.drew⟩ (fun hHeld => ?_)
        replace hB := hB.drew
        replace hx := hx.drew
        replace ht := ht.drew
        generalize hwd : World.drew (World.alloc wr (.cells #[.bool (has l 0), .bool (has l 1), .bool (has l 2), .bool (has l 3), .bool (has l 4), .bool (has l 5), .bool (has l 6), .bool (has l 7)] 92)) = wd at hB hx ht hHeld ⊢
        clear hwd
        refine wpAnyH_take (i := 0) (v := ?_) rfl (by kernel_rfl) (by kernel_rfl) (by kernel_rfl) (fun _ _ _ h => h) (Or.inl ⟨rfl, ?_⟩) hHeld ?_
        rotate_left
        · intro w' hS; obtain ⟨⟨s0, s1, s2, s3, s4, s5, s6, s7⟩, ⟨q0, q1, q2, q3, q4, q5, q6, q7⟩⟩ := hS; go_simp <;> with_reducible rfl
        simp only [Act.put, List.getElem_toArray, List.getElem_cons_succ, List.getElem_cons_zero, List.setIfInBounds_toArray, List.set_cons_succ, List.set_cons_zero]
        refine wpAnyH_take (i := 1) (v := ?_) rfl (by kernel_rfl) (by kernel_rfl) (by kernel_rfl) (fun _ _ _ h => h) (Or.inl ⟨rfl, ?_⟩) hHeld ?_
        rotate_left
        · intro w' hS; obtain ⟨⟨s0, s1, s2, s3, s4, s5, s6, s7⟩, ⟨q0, q1, q2, q3, q4, q5, q6, q7⟩⟩ := hS; go_simp <;> with_reducible rfl
        simp only [Act.put, List.getElem_toArray, List.getElem_cons_succ, List.getElem_cons_zero, List.setIfInBounds_toArray, List.set_cons_succ, List.set_cons_zero]
        refine wpAnyH_take (i := 3) (v := ?_) rfl (by kernel_rfl) (by kernel_rfl) (by kernel_rfl) (fun _ _ _ h => h) (Or.inl ⟨rfl, ?_⟩) hHeld ?_
        rotate_left
        · intro w' hS; obtain ⟨⟨s0, s1, s2, s3, s4, s5, s6, s7⟩, ⟨q0, q1, q2, q3, q4, q5, q6, q7⟩⟩ := hS; go_simp <;> with_reducible rfl
        simp only [Act.put, List.getElem_toArray, List.getElem_cons_succ, List.getElem_cons_zero, List.setIfInBounds_toArray, List.set_cons_succ, List.set_cons_zero]
        refine wpAnyH_ready (rs := [2]) (by kernel_rfl) (by simp) (AllReadyH.cons rfl (fun K hK => ?_) AllReadyH.nil)
        go_simp
        have hwo := without_any (has l) (has b) wd
        unfold cells8 at hwo
        refine hwo.mono ?_
        clear hwo
        rintro e w5 ⟨rfl, hbb⟩
        replace hB := hB.below hbb
        replace hx := hx.below hbb
        have hz5 := hbb.size
        replace ht := below_then ht hbb ht.size
        clear hbb
        refine hK.out _ _ ⟨rowG hx, rowG hB⟩ (fun hHeld => ?_)
        clear hK K
        try simp only [Act.put, List.getElem_toArray, List.getElem_cons_succ, List.getElem_cons_zero, List.setIfInBounds_toArray, List.set_cons_succ, List.set_cons_zero]
        refine wpAnyH_take (i := 4) (v := ?_) rfl (by kernel_rfl) (by kernel_rfl) (by kernel_rfl) (fun _ _ _ h => h) (Or.inl ⟨rfl, ?_⟩) hHeld ?_
        rotate_left
        · intro w' hS; obtain ⟨⟨s0, s1, s2, s3, s4, s5, s6, s7⟩, ⟨q0, q1, q2, q3, q4, q5, q6, q7⟩⟩ := hS; go_simp <;> with_reducible rfl
        simp only [Act.put, List.getElem_toArray, List.getElem_cons_succ, List.getElem_cons_zero, List.setIfInBounds_toArray, List.set_cons_succ, List.set_cons_zero]
        refine wpAnyH_done (by kernel_rfl) ?_ _
        clear hHeld
        rw [HSM.out]
        go_wp2
        go_ret
        exact ⟨ret_of (by rw [HP.out]; rfl), ht⟩
    · obtain rfl : k = ls.length := by omega
      have HP := Lib.hid (apartG_yes HOK.out)
      go_wp2
      go_ret
      exact ⟨ret_of (by rw [HP.out]; rfl), ht⟩

/-- Crowds put together, one after the other. -/
theorem nobody8 : cells8 (has []) = #[.bool false, .bool false, .bool false, .bool false, .bool false, .bool false, .bool false, .bool false] := rfl
set_option maxHeartbeats 3200000 in
set_option maxRecDepth 100000 in
set_option linter.unusedVariables false in
theorem addAllWith_any (T : Option Addr) (q c : Nat) (ls : List (List Int)) (w : World) (hT : Holds w T (crowdsOf ls)) (hq : ls.length = q) (hq8 : q ≤ 1048576) :
    Calls Try.prog 137 #[.agg (cells8 (has [])), .func (.func 136) #[] #[], .slice T q c] w fun e w' => e = .returned (.agg (cells8 (has (flat ls)))) ∧ Below w.heap.size w w' := by
  subst hq
  have h0 := (Whole.fresh w 92 (cells8 (has []))).alloc (.cells (cells8 (fun _ => false)) 92)
  have h1 := Whole.fresh (w.alloc (.cells (cells8 (has [])) 92)) 92 (cells8 (fun _ => false))
  rw [World.size_alloc] at h1
  have hb0 := below2 w (.cells (cells8 (has [])) 92) (.cells (cells8 (fun _ => false)) 92)
  have H0 := Lib.hid h0
  have H1 := Lib.hid h1
  have HB0 := Lib.hid hb0
  clear h0 h1 hb0
  rw [nobody8]
  go_enter Try.func137, Try.ntmps137
  go_wp2
  go_loopw [11] (fun i wr => ∃ k : Nat, k ≤ ls.length ∧ i = .int .i64 k ∧ Whole wr w.heap.size 92 (cells8 (has (flat (ls.take k)))) ∧ Whole wr (w.heap.size + 1) 92 (cells8 (fun _ => false)) ∧ Below w.heap.size w wr) (fun i _ => ls.length - (intOf i).toNat)
  case atStart => exact ⟨0, Nat.zero_le _, rfl, H0.out, H1.out, HB0.out⟩
  case round =>
    obtain ⟨k, hk, rfl, hB, hR, ht⟩ := hrel
    clear H0 H1 HB0
    have hlb := hB.lt
    have hlr := hR.lt
    by_cases hlt : k < ls.length
    · obtain ⟨b1, o1, rfl, hbl1, hcells⟩ := (hT.below ht).spot (by rw [crowdsOf_len]; omega)
      obtain ⟨e0, e1, e2, e3, e4, e5, e6, e7⟩ := crowdG_row hcells hlt
      have HFN := Lib.hid (flat_next hlt)
      obtain ⟨l, hl⟩ : ∃ l, l = ls[k] := ⟨_, rfl⟩
      obtain ⟨b, hbd⟩ : ∃ b, b = flat (ls.take k) := ⟨_, rfl⟩
      rw [← hl] at e0 e1 e2 e3 e4 e5 e6 e7 HFN
      rw [← hbd] at HFN hB
      clear hl hbd hcells
      have hwt := with_any (has b) (has l) (wr.alloc (.cells (cells8 (has l)) 92))
      obtain ⟨y0, y1, y2, y3, y4, y5, y6, y7⟩ := rowG hB
      replace hB := hB.alloc (.cells (cells8 (has l)) 92)
      replace hR := hR.alloc (.cells (cells8 (has l)) 92)
      replace ht := ht.alloc ht.size (.cells (cells8 (has l)) 92)
      unfold cells8 at hwt
      go_wp2_with fail
      refine hwt.mono ?_
      clear hwt y0 y1 y2 y3 y4 y5 y6 y7 e0 e1 e2 e3 e4 e5 e6 e7
      rintro e w6 ⟨rfl, hb6⟩
      replace hB := hB.below hb6
      replace hR := hR.below hb6
      replace ht := below_then ht hb6 ht.size
      go_wp2_with (refine wpList_store_whole rfl 92 (.tmp 3) (.tmp 18) rfl w.heap.size (cells8 (fun i => has b i || has l i)) rfl rfl 92 _ hB size_crowdG rfl (cells8_one _) ?_; intro w7 hw7 ho7)
      have hbb := ho7.below ht (Nat.le_refl _)
      have hr7 := ho7.whole hR (by omega)
      have hw8 : Whole w7 w.heap.size 92 (cells8 (has (flat (ls.take (k + 1))))) := by
        rw [HFN.out]
        have h9 : (fun i => has b i || has l i) = has (b ++ l) := by funext i; rw [has_append]
        rw [h9] at hw7; exact hw7
      have HW8 := Lib.hid hw8
      have HR7 := Lib.hid hr7
      have HBB := Lib.hid hbb
      clear hw7 hw8 hbb ho7 hb6 hB hR ht hr7
      go_wp2
      go_roundw
      case rel => exact ⟨k + 1, by omega, by go_num, HW8.out, HR7.out, HBB.out⟩
      case measure => simp [intOf]; omega
    · obtain rfl : k = ls.length := by omega
      rw [List.take_length] at hB
      go_wp2_with (first | (refine wpList_load_row rfl 92 (.tmp 3) rfl w.heap.size rfl 92 (cells8 (has (flat ls))) (0, 0) _ hB Try.underlying92 rfl size_crowdG ?_) | (refine wpList_store_whole rfl 92 (.tmp 6) (.tmp 20) rfl (w.heap.size + 1) (cells8 (has (flat ls))) rfl rfl 92 (cells8 (fun _ => false)) hR size_crowdG rfl (cells8_one _) ?_; intro w2 hw2 ho2))
      have hb2 := ho2.below ht (by omega)
      obtain ⟨r0, r1, r2, r3, r4, r5, r6, r7⟩ := cells8_cells hw2
      refine bodyPost_ret (v := .agg (cells8 (has (flat ls)))) (by simp [results, Try.results137, go_sem, r0, r1, r2, r3, r4, r5, r6, r7, cells8]) rfl ⟨rfl, hb2⟩
end Go.Proofs.Ytifaadjbkbdbnaa

namespace Go.Proofs.Ytifaadjbkbdbnaa
open Go.RowKit

/-- The cells of a site: eight people, of whom the night's are told, and how many torches are over. -/
def siteCells (bs : List Bool) (u : Int) : Array Value := #[.bool (bs.getD 0 false), .bool (bs.getD 1 false), .bool (bs.getD 2 false), .bool (bs.getD 3 false), .bool (bs.getD 4 false), .bool (bs.getD 5 false), .bool (bs.getD 6 false), .bool (bs.getD 7 false), .int .i64 u]
theorem size_site : (Try.prog.info? 103).map (·.size) = some 9 := by kernel_rfl
theorem site_one (bs : List Bool) (u : Int) : (siteCells bs u).all (·.oneCell') = true := by simp [siteCells, Value.oneCell']

theorem site_cells {w : World} {g : Nat} {ty : TypeId} {bs : List Bool} {u : Int} (h : Whole w g ty (siteCells bs u)) :
    w.cell? ⟨g, 0, none⟩ = some (.bool (bs.getD 0 false)) ∧ w.cell? ⟨g, 1, none⟩ = some (.bool (bs.getD 1 false)) ∧ w.cell? ⟨g, 2, none⟩ = some (.bool (bs.getD 2 false)) ∧ w.cell? ⟨g, 3, none⟩ = some (.bool (bs.getD 3 false)) ∧
    w.cell? ⟨g, 4, none⟩ = some (.bool (bs.getD 4 false)) ∧ w.cell? ⟨g, 5, none⟩ = some (.bool (bs.getD 5 false)) ∧ w.cell? ⟨g, 6, none⟩ = some (.bool (bs.getD 6 false)) ∧ w.cell? ⟨g, 7, none⟩ = some (.bool (bs.getD 7 false)) ∧
    w.cell? ⟨g, 8, none⟩ = some (.int .i64 u) :=
  ⟨(h.cell 0).trans rfl, (h.cell 1).trans rfl, (h.cell 2).trans rfl, (h.cell 3).trans rfl, (h.cell 4).trans rfl, (h.cell 5).trans rfl, (h.cell 6).trans rfl, (h.cell 7).trans rfl, (h.cell 8).trans rfl⟩

theorem splice_site (bs : List Bool) (u : Int) (h : bs.length ≤ 8) : splice (siteCells [] u).toList 0 (bits bs) = (siteCells bs u).toList := by
  match bs, h with
  | [], _ => rfl
  | [_], _ => rfl
  | [_, _], _ => rfl
  | [_, _, _], _ => rfl
  | [_, _, _, _], _ => rfl
  | [_, _, _, _, _], _ => rfl
  | [_, _, _, _, _, _], _ => rfl
  | [_, _, _, _, _, _, _], _ => rfl
  | [_, _, _, _, _, _, _, _], _ => rfl
  | _ :: _ :: _ :: _ :: _ :: _ :: _ :: _ :: _ :: _, h => simp at h

theorem site_at (bs : List Bool) (u : Int) {i : Nat} (h : i < 8) : (siteCells bs u)[i]? = some (.bool (bs.getD i false)) := by
  match i, h with
  | 0, _ => rfl
  | 1, _ => rfl
  | 2, _ => rfl
  | 3, _ => rfl
  | 4, _ => rfl
  | 5, _ => rfl
  | 6, _ => rfl
  | 7, _ => rfl

/-- What a call hands back that makes a camp. -/
def CampRes (bs : List Bool) (u : Int) (w : World) (e : Ending) (w' : World) : Prop :=
  ∃ (A : Option Addr) (c : Nat), e = .returned (.agg #[.slice A bs.length c, .int .i64 u]) ∧ Fresh w' w.heap.size w'.heap.size 4 A (bits bs) ∧ Below w.heap.size w w'
/-- What a call hands back that makes a camp and tells whether it did. -/
def CampPost (bs : List Bool) (u : Int) (ok : Bool) (w : World) (e : Ending) (w' : World) : Prop :=
  ∃ (A : Option Addr) (c : Nat), e = .returned (.tuple #[.agg #[.slice A bs.length c, .int .i64 u], .bool ok]) ∧ Fresh w' w.heap.size w'.heap.size 4 A (bits bs) ∧ Below w.heap.size w w'


set_option maxHeartbeats 800000 in
set_option maxRecDepth 100000 in
theorem siteCamp_any (bs : List Bool) (u : Int) (n : Nat) (w : World) (hy : bs.length = n) (hn : n ≤ 8) :
    Calls Try.prog 84 #[.agg (siteCells bs u), .int .i64 n] w (CampRes bs u w) := by
  subst hy
  have hp := (Whole.fresh w 103 (siteCells bs u)).alloc (.cells #[.slice none 0 0, .int .i64 0] 56)
  have hr := Whole.fresh (w.alloc (.cells (siteCells bs u) 103)) 56 #[.slice none 0 0, .int .i64 0]
  rw [World.size_alloc] at hr
  have hb2 := below2 w (.cells (siteCells bs u) 103) (.cells #[.slice none 0 0, .int .i64 0] 56)
  have ht8 := (hp.cell 8).trans (show (siteCells bs u)[8]? = some (.int .i64 u) from rfl)
  have hB : ∀ j y, (bits bs)[j]? = some y → ((w.alloc (.cells (siteCells bs u) 103)).alloc (.cells #[.slice none 0 0, .int .i64 0] 56)).cell? ⟨w.heap.size, 0 + j, none⟩ = some y := fun j y hu => by
    have hj : j < bs.length := by have := (List.getElem?_eq_some_iff.1 hu).1; rwa [bits_len] at this
    rw [Nat.zero_add, hp.cell j, site_at bs u (by omega), ← hu]
    simp [bits, hj]
  have HB := Lib.hid hB
  clear hB
  have hsl := fun W : World => slice_eight W w.heap.size bs.length hn
  go_enter Try.func84, Try.ntmps84
  go_wp2
  go_region_held3 (fun w' => w'.cell? ⟨w.heap.size, 8, none⟩ = some (.int .i64 u)) (go_keep)
    (first | (go_at_call 111; refine (cloneB_any w.heap.size 0 bs.length 8 bs _ (by exact HB.out) rfl (by omega)).mono ?_; rintro e w1 ⟨A, c, rfl, hf, hb⟩; have k8 := ((hp.drew.below hb).cell 8).trans (show (siteCells bs u)[8]? = some (.int .i64 u) from rfl); obtain ⟨r0, r1, f0, f1⟩ := (hr.drew.below hb).two))
  have hlw : w.heap.size + 1 + 1 ≤ w1.heap.size := by have := hb.size; simpa using this
  have HF := Lib.hid ((hf.set_out (b := w.heap.size + 1) (o := 0) (u := .slice A bs.length c) (.inl (by simp))).set_out (b := w.heap.size + 1) (o := 1) (u := .int .i64 u) (.inl (by simp)))
  have HBW := Lib.hid (below_then hb2.drew hb (by simp; omega))
  clear hf hb
  go_wp2
  refine bodyPost_ret (v := .agg #[.slice A bs.length c, .int .i64 u]) (by simp [results, Try.results84, go_sem, r0, r1]) rfl ⟨A, c, rfl, ?_, ?_⟩
  · have h := HF.out.more (lo' := w.heap.size) (hi' := w1.heap.size) (by simp; omega) (Nat.le_refl _)
    simpa [World.setCell] using h
  · exact below_set (below_set HBW.out (by omega)) (by omega)


theorem site_falses (n : Nat) : siteCells (falses n) 0 = siteCells [] 0 := by
  simp only [siteCells, falses_get]
  rfl
theorem siteCamp_none (n : Nat) (w : World) (hn : n ≤ 8) :
    Calls Try.prog 84 #[.agg #[.bool false, .bool false, .bool false, .bool false, .bool false, .bool false, .bool false, .bool false, .int .i64 0], .int .i64 n] w (CampRes (falses n) 0 w) := by
  have h := siteCamp_any (falses n) 0 n w (falses_len n) hn
  rw [site_falses] at h
  exact h



/-- What siteOf hands back. -/
def SitePost (xs : List Int) (s t : Int) (bs : List Bool) (u : Int) (w : World) (e : Ending) (w' : World) : Prop :=
  ((isCamp xs s t bs.length u = true ∧ e = .returned (.tuple #[.agg (siteCells bs u), .bool true])) ∨ (isCamp xs s t bs.length u = false ∧ e = .returned (.tuple #[.agg (siteCells [] 0), .bool false]))) ∧ Below w.heap.size w w'

set_option maxHeartbeats 3200000 in
set_option maxRecDepth 100000 in
set_option linter.unusedVariables false in
theorem siteOf_any (A : Option Addr) (n c : Nat) (xs : List Int) (s t : Int) (B : Option Addr) (m d : Nat) (bs : List Bool) (u : Int) (w : World) (hA : Holds w A (nums xs)) (hx : xs.length = n) (hn : n ≤ 9223372036854775807) (hB : Holds w B (bits bs)) (hy : bs.length = m) (hm : m ≤ 9223372036854775807) :
    Calls Try.prog 83 #[.agg #[.slice A n c, .int .i64 s, .int .i64 t], .agg #[.slice B m d, .int .i64 u]] w (SitePost xs s t bs u w) := by
  subst hy
  have HX := Lib.hid hx
  have h0 := ((Whole.fresh w 48 #[.slice A n c, .int .i64 s, .int .i64 t]).alloc (.cells #[.slice B bs.length d, .int .i64 u] 56)).alloc (.cells (siteCells [] 0) 103)
  have h1 := (Whole.fresh (w.alloc (.cells #[.slice A n c, .int .i64 s, .int .i64 t] 48)) 56 #[.slice B bs.length d, .int .i64 u]).alloc (.cells (siteCells [] 0) 103)
  have hr := Whole.fresh ((w.alloc (.cells #[.slice A n c, .int .i64 s, .int .i64 t] 48)).alloc (.cells #[.slice B bs.length d, .int .i64 u] 56)) 103 (siteCells [] 0)
  simp only [World.size_alloc] at h1 hr
  have ht := below3 w (.cells #[.slice A n c, .int .i64 s, .int .i64 t] 48) (.cells #[.slice B bs.length d, .int .i64 u] 56) (.cells (siteCells [] 0) 103)
  cases hp : isNight xs s t
  · have HP : Hid (isCamp xs s t bs.length u = false) := by show _ = _; simp [isCamp, hp]
    have HPP := Lib.hid hp
    clear hp hx
    go_enter Try.func83, Try.ntmps83
    go_wp2_with fail
    refine (implIsNight_any A n c xs s t _ (by exact hA.below ht) HX.out hn).mono ?_
    rintro e w1 ⟨rfl, hb⟩
    rw [HPP.out]
    replace ht := below_then ht hb ht.size
    replace hr := hr.below hb
    obtain ⟨c0, c1, c2⟩ := (h0.below hb).cells3
    obtain ⟨d0, d1, -, -⟩ := (h1.below hb).two
    clear hb h0 h1
    go_wp2_with (refine wpList_store_whole rfl 103 (.tmp 4) (.tmp 31) rfl (w.heap.size + 1 + 1) (siteCells [] 0) rfl rfl 103 _ hr size_site rfl (site_one _ _) ?_; intro w2 hw2 ho2)
    obtain ⟨r0, r1, r2, r3, r4, r5, r6, r7, r8⟩ := site_cells hw2
    refine bodyPost_ret (v := .tuple #[.agg (siteCells [] 0), .bool false]) (by simp [results, Try.results83, go_sem, r0, r1, r2, r3, r4, r5, r6, r7, r8, siteCells]) rfl ⟨.inr ⟨HP.out, rfl⟩, ho2.below ht (by omega)⟩
  have HPP := Lib.hid hp
  by_cases hl : bs.length ≠ n
  · have hl' : ((bs.length : Int) != (n : Int)) = true := by simp; omega
    have HP : Hid (isCamp xs s t bs.length u = false) := by show _ = _; simp [isCamp, hp, hx, hl]
    clear hp hx hl
    go_enter Try.func83, Try.ntmps83
    go_wp2_with fail
    refine (implIsNight_any A n c xs s t _ (by exact hA.below ht) HX.out hn).mono ?_
    rintro e w1 ⟨rfl, hb⟩
    rw [HPP.out]
    replace ht := below_then ht hb ht.size
    replace hr := hr.below hb
    obtain ⟨c0, c1, c2⟩ := (h0.below hb).cells3
    obtain ⟨d0, d1, -, -⟩ := (h1.below hb).two
    clear hb h0 h1
    go_wp2_with (refine wpList_store_whole rfl 103 (.tmp 4) (.tmp 31) rfl (w.heap.size + 1 + 1) (siteCells [] 0) rfl rfl 103 _ hr size_site rfl (site_one _ _) ?_; intro w2 hw2 ho2)
    obtain ⟨r0, r1, r2, r3, r4, r5, r6, r7, r8⟩ := site_cells hw2
    refine bodyPost_ret (v := .tuple #[.agg (siteCells [] 0), .bool false]) (by simp [results, Try.results83, go_sem, r0, r1, r2, r3, r4, r5, r6, r7, r8, siteCells]) rfl ⟨.inr ⟨HP.out, rfl⟩, ho2.below ht (by omega)⟩
  have hl' : ((bs.length : Int) != (n : Int)) = false := by simp; omega
  have hle : bs.length = xs.length := by omega
  have HLE := Lib.hid hle
  clear hle
  by_cases hu : u < 0
  · have HP : Hid (isCamp xs s t bs.length u = false) := by show _ = _; simp [isCamp, within_no (lo := 0) (hi := t) (.inl hu)]
    clear hp hx hl
    go_enter Try.func83, Try.ntmps83
    go_wp2_with fail
    refine (implIsNight_any A n c xs s t _ (by exact hA.below ht) HX.out hn).mono ?_
    rintro e w1 ⟨rfl, hb⟩
    rw [HPP.out]
    replace ht := below_then ht hb ht.size
    replace hr := hr.below hb
    obtain ⟨c0, c1, c2⟩ := (h0.below hb).cells3
    obtain ⟨d0, d1, -, -⟩ := (h1.below hb).two
    clear hb h0 h1
    go_wp2_with (refine wpList_store_whole rfl 103 (.tmp 4) (.tmp 31) rfl (w.heap.size + 1 + 1) (siteCells [] 0) rfl rfl 103 _ hr size_site rfl (site_one _ _) ?_; intro w2 hw2 ho2)
    obtain ⟨r0, r1, r2, r3, r4, r5, r6, r7, r8⟩ := site_cells hw2
    refine bodyPost_ret (v := .tuple #[.agg (siteCells [] 0), .bool false]) (by simp [results, Try.results83, go_sem, r0, r1, r2, r3, r4, r5, r6, r7, r8, siteCells]) rfl ⟨.inr ⟨HP.out, rfl⟩, ho2.below ht (by omega)⟩
  by_cases hut : t < u
  · have HP : Hid (isCamp xs s t bs.length u = false) := by show _ = _; simp [isCamp, within_no (lo := 0) (hi := t) (.inr hut)]
    clear hp hx hl
    go_enter Try.func83, Try.ntmps83
    go_wp2_with fail
    refine (implIsNight_any A n c xs s t _ (by exact hA.below ht) HX.out hn).mono ?_
    rintro e w1 ⟨rfl, hb⟩
    rw [HPP.out]
    replace ht := below_then ht hb ht.size
    replace hr := hr.below hb
    obtain ⟨c0, c1, c2⟩ := (h0.below hb).cells3
    obtain ⟨d0, d1, -, -⟩ := (h1.below hb).two
    clear hb h0 h1
    go_wp2_with (refine wpList_store_whole rfl 103 (.tmp 4) (.tmp 31) rfl (w.heap.size + 1 + 1) (siteCells [] 0) rfl rfl 103 _ hr size_site rfl (site_one _ _) ?_; intro w2 hw2 ho2)
    obtain ⟨r0, r1, r2, r3, r4, r5, r6, r7, r8⟩ := site_cells hw2
    refine bodyPost_ret (v := .tuple #[.agg (siteCells [] 0), .bool false]) (by simp [results, Try.results83, go_sem, r0, r1, r2, r3, r4, r5, r6, r7, r8, siteCells]) rfl ⟨.inr ⟨HP.out, rfl⟩, ho2.below ht (by omega)⟩
  have HP : Hid (isCamp xs s t bs.length u = true) := by show _ = _; simp [isCamp, hp, HLE.out, within_yes (show (0 : Int) ≤ u by omega) (show u ≤ t by omega)]
  have h6 : bs.length ≤ 8 := by have := (isNight_ok hp).six; omega
  clear hp hx hl
  go_enter Try.func83, Try.ntmps83
  go_wp2_with fail
  refine (implIsNight_any A n c xs s t _ (by exact hA.below ht) HX.out hn).mono ?_
  rintro e w1 ⟨rfl, hb⟩
  rw [HPP.out]
  replace ht := below_then ht hb ht.size
  replace hr := hr.below hb
  obtain ⟨c0, c1, c2⟩ := (h0.below hb).cells3
  have h1' := h1.below hb
  obtain ⟨d0, d1, -, -⟩ := h1'.two
  clear hb h0 h1
  go_wp2
  have hlr := hr.lt
  have hl1' := h1'.lt
  have hblk := Whole.fresh w1 103 (siteCells [] u)
  have hfar := hB.below (ht.alloc ht.size (.cells (siteCells [] u) 103))
  have hb3 := below1 w1 (.cells (siteCells [] u) 103)
  have hsrc : 0 < (bits bs).length → (some ⟨w1.heap.size, 0, none⟩ : Option Addr) = some ⟨w1.heap.size, 0, none⟩ ∧ ∃ ad : Addr, B = some ad ∧ ∀ j v, (bits bs)[j]? = some v → (w1.alloc (.cells (siteCells [] u) 103)).cell? (ad.add j) = some v := by
    intro h0
    refine ⟨rfl, ?_⟩
    rcases hfar with h | ⟨b, o, hA, hb, hc⟩
    · rw [h] at h0; simp at h0
    · exact ⟨_, hA, fun j v hv => by rw [show (⟨b, o, none⟩ : Addr).add j = ⟨b, o + j, none⟩ from by unfold Addr.add; split <;> simp_all]; exact hc j v hv⟩
  have HSRC := Lib.hid hsrc
  have hbl : (bits bs).length = Nat.min bs.length 8 := by rw [bits_len]; exact (Nat.min_eq_left h6).symm
  have HBL := Lib.hid hbl
  have HONE := Lib.hid (bits_one bs)
  have hfit : 0 + (bits bs).length ≤ (siteCells [] u).toList.length := by rw [bits_len]; show 0 + bs.length ≤ 9; omega
  have HFIT := Lib.hid hfit
  clear hsrc hbl hfit hfar
  go_region_law (refine step_copy_splice rfl (.tmp 37) (.tmp 39) 25 25 rfl 4 Try.underlying25 size_bool (some ⟨w1.heap.size, 0, none⟩) B 8 8 bs.length d (by simp [Act.eval]) (by simp [Act.eval]) w1.heap.size 0 (siteCells [] u).toList 103 (by exact hblk.drew) (bits bs) HBL.out (by exact HSRC.out) HFIT.out HONE.out w1.heap.size _ (by exact hb3.drew) (Nat.le_refl _) ?_; intro w' hw' hb')
  have hq : Whole w' w1.heap.size 103 (siteCells bs u) := by
    have h := hw'.out
    rw [splice_site bs u h6] at h
    exact h
  replace hr := hr.below' hb' (by omega)
  obtain ⟨a0, a1, a2, a3, a4, a5, a6, a7, a8⟩ := site_cells hq
  have hbw : Below w.heap.size w w' := below_then ht (by simpa using hb') ht.size
  have hlq := hq.lt
  clear hw' hblk hb3 HSRC HBL HONE HFIT c0 c1 c2 d0 d1 h1' hb'
  go_wp2_with (first | (refine wpList_load_row rfl 103 (.tmp 6) rfl w1.heap.size rfl 103 (siteCells bs u) (0, 0) _ hq Try.underlying103 rfl size_site ?_) | (refine wpList_store_whole rfl 103 (.tmp 4) (.tmp 41) rfl (w.heap.size + 1 + 1) (siteCells bs u) rfl rfl 103 _ hr size_site rfl (site_one _ _) ?_; intro w2 hw2 ho2))
  obtain ⟨r0, r1, r2, r3, r4, r5, r6, r7, r8⟩ := site_cells hw2
  refine bodyPost_ret (v := .tuple #[.agg (siteCells bs u), .bool true]) (by simp [results, Try.results83, go_sem, r0, r1, r2, r3, r4, r5, r6, r7, r8, siteCells]) rfl ⟨.inl ⟨HP.out, rfl⟩, ho2.below hbw (by omega)⟩



set_option maxHeartbeats 800000 in
theorem implIsCamp_any (A : Option Addr) (n c : Nat) (xs : List Int) (s t : Int) (B : Option Addr) (m d : Nat) (bs : List Bool) (u : Int) (w : World) (hA : Holds w A (nums xs)) (hx : xs.length = n) (hn : n ≤ 9223372036854775807) (hB : Holds w B (bits bs)) (hy : bs.length = m) (hm : m ≤ 9223372036854775807) :
    Calls Try.prog 36 #[.agg #[.slice A n c, .int .i64 s, .int .i64 t], .agg #[.slice B m d, .int .i64 u]] w fun e w' => e = .returned (.bool (isCamp xs s t m u)) ∧ Below w.heap.size w w' := by
  subst hy
  have HX := Lib.hid hx
  have ht := below2 w (.cells #[.slice A n c, .int .i64 s, .int .i64 t] 48) (.cells #[.slice B bs.length d, .int .i64 u] 56)
  have h0 := ((Whole.fresh w 48 #[.slice A n c, .int .i64 s, .int .i64 t]).alloc (.cells #[.slice B bs.length d, .int .i64 u] 56))
  have h1 := (Whole.fresh (w.alloc (.cells #[.slice A n c, .int .i64 s, .int .i64 t] 48)) 56 #[.slice B bs.length d, .int .i64 u])
  simp only [World.size_alloc] at h1
  obtain ⟨c0, c1, c2⟩ := h0.cells3
  obtain ⟨d0, d1, -, -⟩ := h1.two
  clear hx h0 h1
  go_enter Try.func36, Try.ntmps36
  go_wp2_with fail
  refine (siteOf_any A n c xs s t B _ d bs u _ (by exact hA.below ht) HX.out hn (by exact hB.below ht) rfl hm).mono ?_
  rintro e w1 ⟨⟨hc, rfl⟩ | ⟨hc, rfl⟩, hb⟩
  all_goals
    have HC := Lib.hid hc
    replace ht := below_then ht hb ht.size
    clear hc hb c0 c1 c2 d0 d1
    unfold siteCells
    go_wp2
    go_ret
    exact ⟨ret_of (by rw [HC.out]; rfl), by with_reducible first | exact ht | exact ht.alloc ht.size _⟩



/-- Who is over in the first camp: nobody; nobody at all where there is no night. -/
def campBits (xs : List Int) (n : Nat) (s t : Int) : List Bool := if isNight xs s t then falses n else []
theorem campBits_le (xs : List Int) (n : Nat) (s t : Int) : (campBits xs n s t).length ≤ n := by
  rw [campBits]
  split
  · rw [falses_len]; exact Nat.le_refl _
  · simp


set_option maxHeartbeats 800000 in
theorem implFirstCamp_any (A : Option Addr) (n c : Nat) (xs : List Int) (s t : Int) (w : World) (hA : Holds w A (nums xs)) (hx : xs.length = n) (hn : n ≤ 1048576) :
    Calls Try.prog 39 #[.agg #[.slice A n c, .int .i64 s, .int .i64 t]] w (CampPost (campBits xs n s t) 0 (isNight xs s t) w) := by
  unfold campBits
  have HX := Lib.hid hx
  have hA2 := (hA.alloc (.cells #[.slice A n c, .int .i64 s, .int .i64 t] 48)).alloc (.cells #[.slice none 0 0, .int .i64 0] 56)
  have h0 := (Whole.fresh w 48 #[.slice A n c, .int .i64 s, .int .i64 t]).alloc (.cells #[.slice none 0 0, .int .i64 0] 56)
  have h1 := Whole.fresh (w.alloc (.cells #[.slice A n c, .int .i64 s, .int .i64 t] 48)) 56 #[.slice none 0 0, .int .i64 0]
  rw [World.size_alloc] at h1
  cases hp : isNight xs s t
  · have HP := Lib.hid hp
    clear hp hx
    go_enter Try.func39, Try.ntmps39
    go_wp2_with fail
    refine (implIsNight_any A n c xs s t _ hA2 HX.out (by omega)).mono ?_
    rintro e w1 ⟨rfl, hb⟩
    rw [HP.out]
    have ht := below_then (below2 w _ _) hb (by simp; omega)
    have hr := h1.below hb
    have hlr := hr.lt
    obtain ⟨r0, r1, f0, f1⟩ := hr.two
    clear h0 h1 hb hA2
    go_wp2
    refine bodyPost_ret (v := .tuple #[.agg #[.slice none 0 0, .int .i64 0], .bool false]) (by simp [results, Try.results39, go_sem, r0, r1]) rfl ⟨none, 0, rfl, .inl rfl, ?_⟩
    exact below_set (below_set ht (by omega)) (by omega)
  · have HP := Lib.hid hp
    have h8 : n ≤ 8 := by have := (isNight_ok hp).six; omega
    clear hp hx
    go_enter Try.func39, Try.ntmps39
    go_wp2_with fail
    refine (implIsNight_any A n c xs s t _ hA2 HX.out (by omega)).mono ?_
    rintro e w1 ⟨rfl, hb⟩
    rw [HP.out]
    have ht := below_then (below2 w _ _) hb (by simp; omega)
    obtain ⟨c0, c1, c2⟩ := (h0.below hb).cells3
    have hr := h1.below hb
    clear h0 h1 hb hA2
    go_wp2_with fail
    refine (siteCamp_none n _ h8).mono ?_
    rintro e w2 ⟨A2, q2, rfl, hf, hb⟩
    have hlo : w.heap.size + 1 < w1.heap.size := hr.lt
    replace ht := below_then ht hb ht.size
    replace hr := hr.below hb
    obtain ⟨r0, r1, f0, f1⟩ := hr.two
    have HF := Lib.hid (((hf.set_out (b := w.heap.size + 1) (o := 0) (u := .slice A2 (falses n).length q2) (.inl (by omega))).set_out (b := w.heap.size + 1) (o := 1) (u := .int .i64 0) (.inl (by omega))).more (lo' := w.heap.size) (hi' := w2.heap.size) (by omega) (Nat.le_refl _))
    clear hb c0 c1 c2 hf
    go_wp2
    refine bodyPost_ret (v := .tuple #[.agg #[.slice A2 (falses n).length q2, .int .i64 0], .bool true]) (by simp [results, Try.results39, go_sem, r0, r1]) rfl ⟨A2, q2, rfl, ?_, ?_⟩
    · have h := HF.out
      simpa [World.setCell] using h
    · exact below_set (below_set ht (by omega)) (by omega)

set_option maxHeartbeats 800000 in
theorem specFirstCamp_any (A : Option Addr) (n c : Nat) (xs : List Int) (s t : Int) (w : World) (hA : Holds w A (nums xs)) (hx : xs.length = n) (hn : n ≤ 1048576) :
    Calls Try.prog 38 #[.agg #[.slice A n c, .int .i64 s, .int .i64 t]] w (CampPost (campBits xs n s t) 0 (isNight xs s t) w) := by
  unfold campBits
  have HX := Lib.hid hx
  clear hx
  have hA2 := (hA.alloc (.cells #[.slice A n c, .int .i64 s, .int .i64 t] 48)).alloc (.cells #[.slice none 0 0, .int .i64 0] 56)
  have h0 := (Whole.fresh w 48 #[.slice A n c, .int .i64 s, .int .i64 t]).alloc (.cells #[.slice none 0 0, .int .i64 0] 56)
  have h1 := Whole.fresh (w.alloc (.cells #[.slice A n c, .int .i64 s, .int .i64 t] 48)) 56 #[.slice none 0 0, .int .i64 0]
  rw [World.size_alloc] at h1
  cases hp : isNight xs s t
  · have HP := Lib.hid hp
    clear hp
    go_enter Try.func38, Try.ntmps38
    go_wp2_with fail
    refine (toGood_any A n c xs s t _ hA2 HX.out (by omega)).mono ?_
    rintro e w1 ⟨rfl, hb⟩
    rw [HP.out]
    have ht := below_then (below2 w _ _) hb (by simp; omega)
    have hr := h1.below hb
    have hlr := hr.lt
    obtain ⟨r0, r1, f0, f1⟩ := hr.two
    clear h0 h1 hb hA2
    go_wp2
    refine bodyPost_ret (v := .tuple #[.agg #[.slice none 0 0, .int .i64 0], .bool false]) (by simp [results, Try.results38, go_sem, r0, r1]) rfl ⟨none, 0, rfl, .inl rfl, ?_⟩
    exact below_set (below_set ht (by omega)) (by omega)
  · have HP := Lib.hid hp
    clear hp
    go_enter Try.func38, Try.ntmps38
    go_wp2_with fail
    refine (toGood_any A n c xs s t _ hA2 HX.out (by omega)).mono ?_
    rintro e w1 ⟨rfl, hb⟩
    rw [HP.out]
    have ht := below_then (below2 w _ _) hb (by simp; omega)
    obtain ⟨c0, c1, c2⟩ := (h0.below hb).cells3
    have hr := h1.below hb
    clear h0 h1 hb hA2
    have hmk : ∀ W : World, (Instr.makeSlice 25 (.int .i64 (n : Int)) (.int .i64 (n : Int))).run Try.prog W = .ok (.slice (some ⟨W.heap.size, 0, none⟩) n n) (W.alloc (.cells (bits (falses n)).toArray 4)) := by
      obtain ⟨i0, hi, hz0, hz1, hz2⟩ := info_parts info_bool
      intro W
      have h := run_make (P := Try.prog) W 25 4 i0 _ Try.underlying25 hi hz0 .i64 .i64 n n (by omega) (by omega) (by rw [hz2]; omega) (by omega)
      simp only [Int.toNat_natCast, hz1, made_falses] at h
      rw [h]
      rfl
    have hlr := hr.lt
    have hsz : ((w1.setCell ⟨w.heap.size + 1, 0, none⟩ (.slice (some ⟨w1.heap.size, 0, none⟩) n n)).setCell ⟨w.heap.size + 1, 1, none⟩ (.int .i64 0)).heap.size = w1.heap.size := by simp [World.setCell]
    have hw := Whole.fresh ((w1.setCell ⟨w.heap.size + 1, 0, none⟩ (.slice (some ⟨w1.heap.size, 0, none⟩) n n)).setCell ⟨w.heap.size + 1, 1, none⟩ (.int .i64 0)) 4 (bits (falses n)).toArray
    have hw2 := hr.set_ 0 (.slice (some ⟨w1.heap.size, 0, none⟩) n n)
    have hw3 := (hw2.set_ 1 (.int .i64 0)).alloc (.cells (bits (falses n)).toArray 4)
    rw [hsz] at hw
    have HT := Lib.hid ((below_set (below_set ht (b := w.heap.size + 1) (o := 0) (u := .slice (some ⟨w1.heap.size, 0, none⟩) n n) (by omega)) (b := w.heap.size + 1) (o := 1) (u := .int .i64 0) (by omega)).alloc (by rw [hsz]; exact ht.size) (.cells (bits (falses n)).toArray 4))
    have HW := Lib.hid (Fresh.of_whole hw (lo := w.heap.size) (hi := w1.heap.size + 1) (by have := ht.size; omega) (by omega))
    have HR := Lib.hid hw3
    obtain ⟨r0, r1, f0, f1⟩ := hr.two
    clear hr hw hw2 hw3 hsz
    go_wp2
    obtain ⟨q0, q1, -, -⟩ := (show Whole _ (w.heap.size + 1) 56 #[.slice (some ⟨w1.heap.size, 0, none⟩) n n, .int .i64 0] by simpa using HR.out).two
    refine bodyPost_ret (v := .tuple #[.agg #[.slice (some ⟨w1.heap.size, 0, none⟩) n n, .int .i64 0], .bool true]) (by simp [results, Try.results38, go_sem, q0, q1]) rfl ⟨some ⟨w1.heap.size, 0, none⟩, n, ?_, ?_, ?_⟩
    · simp [falses]
    · have h := HW.out
      simpa [World.setCell] using h
    · exact HT.out

end Go.Proofs.Ytifaadjbkbdbnaa
