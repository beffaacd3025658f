/-
  What is proved: plain facts on memory for this seat's walks: a slice that stands for a list of one-cell values, and a block that is known whole; both outlive whatever leaves the blocks below them alone. Conditions: none.
  What is proved: contracts of a string taken out of a strings.Builder, in this program's numbers. Conditions: as each says.
  What is proved: contracts of texts written to a strings.Builder of the call's own, of room made in a fresh one, and of strings.Join, in this program's numbers. Conditions: the builder is only written; fewer than 2^47 bytes.
  What is proved: contracts of the laws' own helpers for lists of numbers and parties: their size, their copy, their comparison. Conditions: the given lists are read as they lie; a copy is of at most 1,048,576 numbers.
  What is proved: contracts of the model's and the program's tests of a party. Conditions: the party's times are read as they lie.
  What is proved: contracts of the least and the greatest number of a list, and of the program's own test of a party. Conditions: the party's times are read as they lie.
  What is proved: contracts of the laws' own helpers for lists of truth values and states: their size, their copy, their comparison. Conditions: the given lists are read as they lie; a copy is of at most 1,048,576 values.
  What is proved: contracts of the model's and the program's tests of a state. Conditions: the party's times and the state's places are read as they lie.
  What is proved: the contract of the program's own IsState. Conditions: the party's times and the state's places are read as they lie.
  What is proved: contracts on trips: the program's crowd of a list and its slowest time, the model's test of a trip and its time; and that the two times are one. Conditions: lists are read as they lie; at most eight people.
  What is proved: contracts of the program's crowd of a list, of its slowest time, and that this time is the model's. Conditions: lists are read as they lie; at most eight people.
  What is proved: contracts of the model's and the program's TripTime. Conditions: the party's times and the list are read as they lie.
  What is proved: contracts of the model's and the program's tests of a trip in a state. Conditions: the arguments are read as they lie; at most eight people.
  What is proved: a store of a whole struct or array into a block that is known whole, as one step of a walk. Conditions: the block has just as many cells.
  What is proved: contracts of the program's own place of a state, of a trip in it, and of its CanCross. Conditions: the arguments are read as they lie; at most eight people.
  What is proved: the cells of a small block that is known whole. Conditions: none.
  What is proved: plain facts on clues: their cells, lists of them in memory, which are clues of so many people. Conditions: none.
  What is proved: contracts of both sides' tests of hidden times. Conditions: the list is read as it lies.
  What is proved: contracts of the program's tests of clues: what A and B may be, the check that raises a clue that is none, the door that catches it. Conditions: the clues are read as they lie, of one to four people.
  What is proved: contracts of the program's check that raises a clue that is none, and of the door that catches it. Conditions: one to four people.
  What is proved: contracts of the door that catches a clue that is raised, and of what stands on it: the program's tests of clues and puzzles. Conditions: the clues are read as they lie.
  What is proved: contracts of the model's tests of clues and puzzles. Conditions: the clues are read as they lie.
  What is proved: contracts of the laws' marks: a row of the call's own is overwritten by a count, and found so again. Conditions: the row is a new one, open to writes; counts are small.
  What is proved: contracts of the first state, as the model and the program make it. Conditions: the party's times are read as they lie.
  What is proved: contracts of the program's state of a place and of its FirstState. Conditions: the party's times are read as they lie; at most eight people.
-/
import Derived.Test.YtedkanncdkofaaaDoorProg
import Derived.WalkKit
import Derived.Below
import Derived.Laws.OwnMore
import Derived.Laws.MakeOwn
import Derived.Deep.Draws
import Derived.Shelf.Strings.Builder1
import Derived.Lib.Builder
import Derived.Lib.Join
import Derived.Lib.Hide
import Derived.Deep.RegionHeld3
import Derived.BigQuiet
import Derived.Deep.QuietTactic
import Derived.Handy
import Derived.WalkLawsBesides
import Derived.Outline
import Derived.Laws.CopyOwn
import Derived.Laws.Tables
import Derived.Recover
import Derived.WalkSpells
set_option linter.unusedSimpArgs false
set_option linter.unusedVariables false
namespace Go.Proofs.YtedkanncdkofaaaDoor
open Go.RowKit

/-- The numbers as cells. -/
def nums (zs : List Int) : List Value := zs.map (Value.int .i64)
/-- The truth values as cells. -/
def bits (bs : List Bool) : List Value := bs.map Value.bool

theorem nums_len (zs : List Int) : (nums zs).length = zs.length := by simp [nums]
theorem bits_len (bs : List Bool) : (bits bs).length = bs.length := by simp [bits]

/-- From address A on the world holds the cells xs (nothing is said where xs is empty). -/
def Holds (w : World) (A : Option Addr) (xs : List Value) : Prop :=
  xs = [] ∨ ∃ b o, A = some ⟨b, o, none⟩ ∧ b < w.heap.size ∧ ∀ j u, xs[j]? = some u → w.cell? ⟨b, o + j, none⟩ = some u

/-- Block g is just the cells cs of the element type t, open to writes. -/
def Whole (w : World) (g : Nat) (t : TypeId) (cs : Array Value) : Prop := w.heap[g]? = some (.cells cs t (0, 0))

section
variable {w w' : World} {A : Option Addr} {xs : List Value} {g : Nat} {t : TypeId} {cs : Array Value}

theorem Holds.empty (w : World) (A : Option Addr) : Holds w A [] := .inl rfl

theorem Holds.look {k : Nat} (h : Holds w A xs) (hk : k < xs.length) : ∃ b o, A = some ⟨b, o, none⟩ ∧ b < w.heap.size ∧ w.cell? ⟨b, o + k, none⟩ = some xs[k] := by
  rcases h with rfl | ⟨b, o, hA, hb, hc⟩
  · simp at hk
  · exact ⟨b, o, hA, hb, hc k _ (List.getElem?_eq_getElem hk)⟩

theorem Holds.keep (h : Holds w A xs) (hs : w.heap.size ≤ w'.heap.size) (hk : ∀ p : Addr, p.block < w.heap.size → w'.cell? p = w.cell? p) : Holds w' A xs := by
  rcases h with rfl | ⟨b, o, hA, hb, hc⟩
  · exact .inl rfl
  · exact .inr ⟨b, o, hA, by omega, fun j u hu => (hk ⟨b, o + j, none⟩ hb).trans (hc j u hu)⟩

theorem Holds.below (h : Holds w A xs) (hb : Below w.heap.size w w') : Holds w' A xs := h.keep hb.size fun _ hp => hb.cell hp
theorem Holds.drew (h : Holds w A xs) : Holds w.drew A xs := h
theorem Holds.alloc (h : Holds w A xs) (o : Obj) : Holds (w.alloc o) A xs := h.keep (by simp) fun p hp => World.cell?_alloc_lt w o p hp

theorem Whole.lt (h : Whole w g t cs) : g < w.heap.size := by
  rcases Nat.lt_or_ge g w.heap.size with hl | hl
  · exact hl
  · unfold Whole at h; rw [Array.getElem?_eq_none hl] at h; cases h
theorem Whole.cell (h : Whole w g t cs) (i : Nat) : w.cell? ⟨g, i, none⟩ = cs[i]? := by
  unfold Whole at h
  simp [World.cell?, h]
theorem Whole.open_ (h : Whole w g t cs) (i : Nat) : w.frozen? ⟨g, i, none⟩ = false := by
  unfold Whole at h
  simp [World.frozen?, h]
theorem Whole.below (h : Whole w g t cs) (hb : Below w.heap.size w w') : Whole w' g t cs := (hb.block g h.lt).trans h
theorem Whole.below' {B : Nat} (h : Whole w g t cs) (hb : Below B w w') (hg : g < B) : Whole w' g t cs := (hb.block g hg).trans h
theorem Whole.drew (h : Whole w g t cs) : Whole w.drew g t cs := h
theorem Whole.alloc (h : Whole w g t cs) (o : Obj) : Whole (w.alloc o) g t cs := (Below.heap_alloc w o g h.lt).trans h
theorem Whole.far (h : Whole w g t cs) {p : Addr} (hp : g ≠ p.block) (u : Value) : Whole (w.setCell p u) g t cs := (Below.heap_setCell w p u g hp).trans h
theorem Whole.set_ (h : Whole w g t cs) (i : Nat) (u : Value) : Whole (w.setCell ⟨g, i, none⟩ u) g t (cs.setIfInBounds i u) := by
  unfold Whole at h ⊢
  simp [World.setCell, Array.getElem?_modify, h]
theorem Whole.fresh (w : World) (t : TypeId) (cs : Array Value) : Whole (w.alloc (.cells cs t)) w.heap.size t cs := by
  unfold Whole World.alloc
  simp
theorem Whole.holds (h : Whole w g t cs) : Holds w (some ⟨g, 0, none⟩) cs.toList :=
  .inr ⟨g, 0, rfl, h.lt, fun j u hu => by rw [Nat.zero_add, h.cell j]; simpa using hu⟩
end

/-- Behind a call that leaves all that was there alone: the old cells and the old marks, as two rules for the walk. -/
theorem kept {w w' : World} (hb : Below w.heap.size w w') :
    (∀ b o, b < w.heap.size → w'.cell? ⟨b, o, none⟩ = w.cell? ⟨b, o, none⟩) ∧ (∀ b o, b < w.heap.size → w'.frozen? ⟨b, o, none⟩ = w.frozen? ⟨b, o, none⟩) :=
  ⟨fun b o h => hb.cell (p := ⟨b, o, none⟩) h, fun b o h => hb.frozen (p := ⟨b, o, none⟩) h⟩

/-- The same three words with the block's number written out, for omega. -/
theorem Whole.off {w : World} {g b o : Nat} {t : TypeId} {cs : Array Value} {u : Value} (h : Whole w g t cs) (hne : g ≠ b) : Whole (w.setCell ⟨b, o, none⟩ u) g t cs := h.far (p := ⟨b, o, none⟩) hne u
theorem below_set {B b o : Nat} {a w : World} {u : Value} (h : Below B a w) (hb : B ≤ b) : Below B a (w.setCell ⟨b, o, none⟩ u) := h.setCell (p := ⟨b, o, none⟩) hb u
theorem below1 (w : World) (x : Obj) : Below w.heap.size w (w.alloc x) := (Below.refl _ _).alloc (Nat.le_refl _) x
theorem below2 (w : World) (x y : Obj) : Below w.heap.size w ((w.alloc x).alloc y) := (below1 w x).alloc (by simp) y
theorem below3 (w : World) (x y z : Obj) : Below w.heap.size w (((w.alloc x).alloc y).alloc z) := (below2 w x y).alloc (by simp; omega) z
theorem below4 (w : World) (x y z u : Obj) : Below w.heap.size w ((((w.alloc x).alloc y).alloc z).alloc u) := (below3 w x y z).alloc (by simp; omega) u
theorem below_then {a b c : World} {B : Nat} (h : Below B a b) (k : Below b.heap.size b c) (hB : B ≤ b.heap.size) : Below B a c := h.trans (k.mono hB)

theorem below_draws {B : Nat} {a w : World} (h : Below B a w) (n : Nat) : Below B a (w.drewN n) := ⟨h.os, h.tape, h.output, h.size, h.block⟩

/-- The cells and marks of a block of two cells. -/
theorem Whole.two {w : World} {g : Nat} {t : TypeId} {a b : Value} (h : Whole w g t #[a, b]) :
    w.cell? ⟨g, 0, none⟩ = some a ∧ w.cell? ⟨g, 1, none⟩ = some b ∧ w.frozen? ⟨g, 0, none⟩ = false ∧ w.frozen? ⟨g, 1, none⟩ = false :=
  ⟨(h.cell 0).trans rfl, (h.cell 1).trans rfl, h.open_ 0, h.open_ 1⟩

theorem ret_of {v u : Value} (h : v = u) : Ending.returned v = .returned u := by rw [h]
end Go.Proofs.YtedkanncdkofaaaDoor

namespace Go.Proofs
open Go.Shelf
def Tryd.lays169_ren : Go.Shelf.Ren := ⟨fun | 169 => 118 | n => n, fun | 70 => 131 | 9 => 9 | 0 => 0 | 72 => 134 | 37 => 132 | 127 => 153 | 3 => 3 | 5 => 5 | n => n, fun | n => n⟩
theorem Tryd.lays169 : Go.Proofs.Lays.n169 Tryd.prog Tryd.lays169_ren := {
  mixed := by kernel_rfl
  f169 := Tryd.func118.trans (congrArg some (by kernel_rfl))
  t0 := Tryd.underlying0
  a0 := Tryd.isAgg0
  z0 := Tryd.sizeOf0
  v0 := Tryd.zeroValue0
  t3 := Tryd.underlying3
  a3 := Tryd.isAgg3
  z3 := Tryd.sizeOf3
  v3 := Tryd.zeroValue3
  t9 := Tryd.underlying9
  a9 := Tryd.isAgg9
  z9 := Tryd.sizeOf9
  v9 := Tryd.zeroValue9
  t37 := Tryd.underlying132
  a37 := Tryd.isAgg132
  z37 := Tryd.sizeOf132
  v37 := Tryd.zeroValue132
  t70 := Tryd.underlying131
  a70 := Tryd.isAgg131
  z70 := Tryd.sizeOf131
  v70 := Tryd.zeroValue131
  t72 := Tryd.underlying134
  a72 := Tryd.isAgg134
  z72 := Tryd.sizeOf134
  v72 := Tryd.zeroValue134
  t127 := Tryd.underlying153
  a127 := Tryd.isAgg153
  z127 := Tryd.sizeOf153
  v127 := Tryd.zeroValue153 }
theorem Tryd.Builder_Extra_169 : Builder.Extra Tryd.prog Tryd.lays169_ren := {
  sizeBuilder := by kernel_rfl
  liesBuilder := by kernel_rfl
  t5 := Tryd.underlying5
  a5 := Tryd.isAgg5
  z5 := Tryd.sizeOf5
  v5 := Tryd.zeroValue5
  infoByte := by kernel_rfl
  cellsByte := by kernel_rfl
  sizeByte := by kernel_rfl
  neB5 := by decide }
open Go.RowKit in
theorem Tryd.Builder_String_any (B b : Nat) (l : List UInt8) (w : World) (h : Lib.IsBuilder 134 5 B b (Lib.byteCells l) w) (hBw : B ≤ w.heap.size) :
    Calls Tryd.prog 118 #[.pointer (some ⟨b, 0, none⟩)] w fun e w' => e = .returned (.string ⟨l.toArray⟩) ∧ Below B w w' := Any.Builder_String_any Tryd.lays169 Tryd.Builder_Extra_169 B b l w h hBw
end Go.Proofs

namespace Go.Proofs.YtedkanncdkofaaaDoor
open Go.RowKit

theorem size_builderS : (Tryd.prog.info? 134).map (·.size) = some 2 := by kernel_rfl
theorem lies_builderS : liesAt Tryd.prog Tryd.prog.depth 134 (2 / Tryd.prog.cellsOf 134) 0 134 1 = true := by kernel_rfl
theorem info_byteS : (Tryd.prog.info? 5).map (fun i => (i.zero, i.size, i.bytes)) = some (some (.int .u8 0), 1, 1) := by kernel_rfl

set_option maxHeartbeats 1000000 in
set_option maxRecDepth 100000 in
theorem copyCheck_usedS (b : Nat) (w : World) (h0 : w.cell? ⟨b, 0, none⟩ = some (.pointer (some ⟨b, 0, none⟩))) :
    Calls Tryd.prog 136 #[.pointer (some ⟨b, 0, none⟩)] w fun e w' => e = .returned (.tuple #[]) ∧ w = w' := by
  obtain ⟨j, hj, _⟩ := Option.map_eq_some_iff.1 size_builderS
  go_enter Tryd.func136, Tryd.ntmps136
  go_wp2
  rw [Lib.run_neq_ptr_same w _ Tryd.underlying131 hj]
  go_wp2
  go_end0
  exact ⟨rfl, rfl⟩

set_option maxHeartbeats 1000000 in
set_option maxRecDepth 100000 in
theorem copyCheck_freshS (b : Nat) (w : World) (h0 : w.cell? ⟨b, 0, none⟩ = some (.pointer none)) (hsh : w.shape? b = some (134, 2)) (hfz : w.frozen? ⟨b, 0, none⟩ = false) :
    Calls Tryd.prog 136 #[.pointer (some ⟨b, 0, none⟩)] w fun e w' => e = .returned (.tuple #[]) ∧ w' = w.setCell ⟨b, 0, none⟩ (.pointer (some ⟨b, 0, none⟩)) := by
  obtain ⟨j, hj, hjs⟩ := Option.map_eq_some_iff.1 size_builderS
  go_enter Tryd.func136, Tryd.ntmps136
  go_wp2
  rw [Lib.run_to_unsafe w ⟨b, 0, none⟩ Tryd.underlying131 Tryd.underlying166 hj (by rw [hjs]; decide) hsh (Nat.zero_lt_succ 1)]
  simp only [Result.andThen]
  rw [Oper.upon_value]
  go_wp2
  rw [run_callFunc_extern Tryd.func152 (by kernel_rfl) (by kernel_rfl) (by kernel_rfl) (e := Extern.AbiNoEscape.same) (by kernel_rfl)]
  rw [Lib.run_noEscape]
  simp only [Result.andThen]
  rw [Oper.upon_value]
  go_wp2
  rw [Lib.run_from_unsafe w ⟨b, 0, none⟩ Tryd.underlying166 Tryd.underlying131 hj hsh lies_builderS]
  simp only [Result.andThen]
  rw [Oper.upon_value]
  go_wp2
  go_end0
  exact ⟨rfl, rfl⟩

/-- A builder of the call's own, in a block from B on. -/
abbrev BuiltS (B b : Nat) (bs : List Value) (w : World) : Prop := Lib.IsBuilder 134 5 B b bs w
theorem copyCheck_anyS (B b : Nat) (bs : List Value) (w : World) (h : BuiltS B b bs w) :
    Calls Tryd.prog 136 #[.pointer (some ⟨b, 0, none⟩)] w fun e w' => e = .returned (.tuple #[]) ∧ Lib.BuilderAt 134 5 B b (.pointer (some ⟨b, 0, none⟩)) bs w' ∧ Below B w w' := by
  rcases h with h | h
  · refine (copyCheck_freshS b w h.cell0 h.shape h.frozen0).mono ?_
    rintro e w' ⟨rfl, rfl⟩
    exact ⟨rfl, h.used _, (Below.refl B w).setCell (p := ⟨b, 0, none⟩) h.1 _⟩
  · refine (copyCheck_usedS b w h.cell0).mono ?_
    rintro e w' ⟨rfl, rfl⟩
    exact ⟨rfl, h, Below.refl B _⟩

theorem own_sliceS {w : World} {base : Nat} {e : TypeId} {size : Nat} {v : Value} {n : Nat} {xs : List Value} (h : w.ownsRow base e size v (n + 1) xs) : ∃ g cap, v = .slice (some ⟨g, 0, none⟩) (n + 1) cap := by
  obtain ⟨-, ⟨-, h⟩ | ⟨g, cap, -, hv, -⟩⟩ := h
  · omega
  · exact ⟨g, cap, hv⟩
theorem cells_freshS (w : World) (ty : TypeId) (cs : Array Value) : ∀ j u, cs.toList[j]? = some u → (w.alloc (.cells cs ty)).cell? ((⟨w.heap.size, 0, none⟩ : Addr).add j) = some u := fun j u hu => by
  rw [show (⟨w.heap.size, 0, none⟩ : Addr).add j = ⟨w.heap.size, j, none⟩ from by unfold Addr.add; split <;> simp_all, (Whole.fresh w ty cs).cell j]
  simpa using hu


set_option maxHeartbeats 2000000 in
set_option maxRecDepth 100000 in
theorem writeString_any (B b : Nat) (bs : List Value) (s : ByteArray) (w : World) (h : BuiltS B b bs w) (hlen : bs.length + s.size ≤ 140737488355328) (hBw : B ≤ w.heap.size) :
    Calls Tryd.prog 117 #[.pointer (some ⟨b, 0, none⟩), .string s] w fun e w' => e = .returned (.tuple #[.int .i64 s.size, .nilIface]) ∧ BuiltS B b (bs ++ Lib.strCells s) w' ∧ Below B w w' := by
  obtain ⟨i0, hi, hz0, hz1, hz2⟩ := info_parts info_byteS
  have HI := Lib.hid hi
  have HZ0 := Lib.hid hz0
  have HZ1 := Lib.hid hz1
  have HZ2 := Lib.hid hz2
  clear hi hz0 hz1 hz2
  go_enter Tryd.func117, Tryd.ntmps117
  go_wp2_with fail
  refine (copyCheck_anyS B b bs _ h).mono ?_
  rintro e w1 ⟨rfl, h1, hb1⟩
  obtain ⟨hB, v, hbk, hown, hne⟩ := h1
  have hlt : b < w1.heap.size := by
    rcases Nat.lt_or_ge b w1.heap.size with h' | h'
    · exact h'
    · simp [Array.getElem?_eq_none h'] at hbk
  have c0 : w1.cell? ⟨b, 0, none⟩ = some (.pointer (some ⟨b, 0, none⟩)) := by rw [Lib.cell_of_heap hbk]; rfl
  have c1 : w1.cell? ⟨b, 1, none⟩ = some v := by rw [Lib.cell_of_heap hbk]; rfl
  have hbs := hb1.size
  have HOWN := Lib.hid hown
  have HBK := Lib.hid hbk
  have HB1 := Lib.hid hb1
  clear hown hbk hb1
  go_wp2_with (at_builtin; refine Lib.wpList_append_own_string _ rfl _ _ 132 9 rfl B 5 i0 Tryd.underlying132 Tryd.underlying9 HI.out HZ0.out HZ1.out HZ2.out _ _ _ rfl HOWN.out s rfl ?c3 ?c4 ?c5 ?_)
  case c3 => unfold maxLen; omega
  case c4 => omega
  case c5 => omega
  intro v' w2 hown' hgrow _
  have hb2 : w2.heap[b]? = some (.cells #[.pointer (some ⟨b, 0, none⟩), v] 134 (0, 0)) := by
    rw [hgrow.block b hlt (fun e => hne e.symm)]
    exact HBK.out
  have d0 : w2.cell? ⟨b, 0, none⟩ = some (.pointer (some ⟨b, 0, none⟩)) := by rw [Lib.cell_of_heap hb2]; rfl
  have d1 : w2.cell? ⟨b, 1, none⟩ = some v := by rw [Lib.cell_of_heap hb2]; rfl
  have d2 : w2.frozen? ⟨b, 1, none⟩ = false := Lib.frozen_of_heap hb2 1
  obtain ⟨ao, n', cap, rfl⟩ : ∃ ao n' cap, v' = .slice ao n' cap := by
    rcases hown'.2 with ⟨hv, _⟩ | ⟨g, cap, cur, hv, _⟩
    · exact ⟨_, _, _, hv⟩
    · exact ⟨_, _, _, hv⟩
  have hput := Lib.BuilderAt.put (T := 134) (e := 5) hB hb2 (bs' := bs ++ Lib.strCells s) (by simpa [Lib.strCells_length] using hown') (by decide)
  have HP := Lib.hid hput
  have hbe := (HB1.out.grown hgrow (by omega) (fun k hk => (HOWN.out.lt k hk).1)).setCell (p := ⟨b, 1, none⟩) hB (.slice ao n' cap)
  have HE := Lib.hid hbe
  clear hput hbe hown' hgrow hb2
  go_wp2
  go_ret2
  exact ⟨rfl, .inr HP.out, HE.out⟩

set_option maxHeartbeats 2000000 in
set_option maxRecDepth 100000 in
theorem grow_fresh (B b n : Nat) (w : World) (hB : B ≤ b) (hbk : w.heap[b]? = some (.cells #[.pointer (some ⟨b, 0, none⟩), .slice none 0 0] 134 (0, 0))) (hBw : B ≤ w.heap.size) (hn : n ≤ 281474976710656) :
    Calls Tryd.prog 137 #[.pointer (some ⟨b, 0, none⟩), .int .i64 n] w fun e w' => e = .returned (.tuple #[]) ∧ BuiltS B b [] w' ∧ Below B w w' := by
  obtain ⟨cs, hrun, hle, hmax⟩ := Lib.run_makeNoZero (P := Tryd.prog) w.drew #[3] 132 5 Tryd.underlying132 n hn
  have hw : IntKind.i64.wrap (IntKind.i64.wrap 0 + (n : Int)) = n := by
    rw [IntKind.wrap_i64, IntKind.wrap_i64]
    omega
  have hcall : (callFunc 153 #[.int .i64 (IntKind.i64.wrap (IntKind.i64.wrap 0 + (n : Int)))]).run Tryd.prog w.drew = .ok (.value (.slice (some ⟨w.drew.heap.size, 0, none⟩) n cs.size)) (w.drew.drew.drew.alloc (.cells cs 5)) := by
    rw [hw, run_callFunc_extern Tryd.func153 (by kernel_rfl) (by kernel_rfl) (by kernel_rfl) (e := Extern.BytealgMakeNoZero.makeNoZero #[3] #[132]) (by kernel_rfl), hrun]
    rfl
  have c1 : w.drew.cell? ⟨b, 1, none⟩ = some (.slice none 0 0) := by
    have : w.drew.heap[b]? = _ := hbk
    rw [Lib.cell_of_heap this]; rfl
  have hlt : b < w.heap.size := by
    rcases Nat.lt_or_ge b w.heap.size with h' | h'
    · exact h'
    · simp [Array.getElem?_eq_none h'] at hbk
  have c2 : (w.alloc (.cells cs 5)).cell? ⟨b, 1, none⟩ = some (.slice none 0 0) := by
    have : (w.alloc (.cells cs 5)).heap[b]? = _ := (Lib.alloc_old w _ b hlt).trans hbk
    rw [Lib.cell_of_heap this]; rfl
  have f2 : (w.alloc (.cells cs 5)).frozen? ⟨b, 1, none⟩ = false := Lib.frozen_of_heap ((Lib.alloc_old w _ b hlt).trans hbk) 1
  have hcopy : ∀ W : World, (Builtin.copy_ #[132, 132] 3 #[.slice (some ⟨w.heap.size, 0, none⟩) 0 cs.size, .slice none 0 0]).run Tryd.prog W = .ok (goInt 0) W :=
    fun W => run_copy_none W 132 132 3 5 _ _ 0 cs.size 0 0 Tryd.underlying132 (by kernel_rfl) rfl
  clear hw
  go_enter Tryd.func137, Tryd.ntmps137
  go_wp2
  have hfin := Lib.grown_fresh (T := 134) (e := 5) (cs := cs) hB hbk hBw (hmax (by unfold maxLen; omega)) (by decide)
  rw [World.setCell_alloc_past _ _ _ _ hlt] at hfin
  go_region
  all_goals (go_wp2; go_end0; exact ⟨rfl, .inr hfin.1, hfin.2⟩)

set_option maxHeartbeats 2000000 in
set_option maxRecDepth 100000 in
theorem growB_fresh (B b n : Nat) (w : World) (hB : B ≤ b) (hbk : w.heap[b]? = some (.cells #[.pointer none, .slice none 0 0] 134 (0, 0))) (hBw : B ≤ w.heap.size) (hn : n ≤ 281474976710656) :
    Calls Tryd.prog 116 #[.pointer (some ⟨b, 0, none⟩), .int .i64 n] w fun e w' => e = .returned (.tuple #[]) ∧ BuiltS B b [] w' ∧ Below B w w' := by
  have hbk1 : (w.setCell ⟨b, 0, none⟩ (.pointer (some ⟨b, 0, none⟩))).heap[b]? = some (.cells #[.pointer (some ⟨b, 0, none⟩), .slice none 0 0] 134 (0, 0)) := by
    simp [World.setCell, Array.getElem?_modify, hbk]
  have c1 : (w.setCell ⟨b, 0, none⟩ (.pointer (some ⟨b, 0, none⟩))).cell? ⟨b, 1, none⟩ = some (.slice none 0 0) := by rw [Lib.cell_of_heap hbk1]; rfl
  have hb1 : Below B w (w.setCell ⟨b, 0, none⟩ (.pointer (some ⟨b, 0, none⟩))) := (Below.refl B w).setCell (p := ⟨b, 0, none⟩) hB _
  have hU : Lib.BuilderAt 134 5 B b (.pointer (some ⟨b, 0, none⟩)) [] (w.setCell ⟨b, 0, none⟩ (.pointer (some ⟨b, 0, none⟩))) := ⟨hB, .slice none 0 0, hbk1, World.ownsRow_nil _ _ _ _, by simp [Value.ownBlock]⟩
  go_enter Tryd.func116, Tryd.ntmps116
  have c1' : (w.setCell ⟨b, 0, none⟩ (.pointer (some ⟨b, 0, none⟩))).drew.cell? ⟨b, 1, none⟩ = some (.slice none 0 0) := c1
  go_wp2_with fail
  refine (copyCheck_freshS b w (by rw [Lib.cell_of_heap hbk]; rfl) (by simp [World.shape?, hbk]) (Lib.frozen_of_heap hbk 0)).mono ?_
  rintro e w' ⟨rfl, rfl⟩
  go_wp2_with fail
  go_region
  all_goals go_wp2_with fail
  all_goals first
    | (refine (grow_fresh B b n (w.setCell ⟨b, 0, none⟩ (.pointer (some ⟨b, 0, none⟩))).drew hB hbk1 (by simpa [World.setCell, World.drew, -World.drew_eq] using hBw) hn).mono ?_; rintro e w' ⟨rfl, h1, h2⟩; go_wp2; go_end0; exact ⟨rfl, h1, hb1.drew.trans h2⟩)
    | (go_end0; exact ⟨rfl, .inr hU.drew, hb1.drew⟩)
end Go.Proofs.YtedkanncdkofaaaDoor

namespace Go.Proofs.YtedkanncdkofaaaDoor
open Go.RowKit

set_option maxHeartbeats 400000 in
theorem szIntS_any (A : Option Addr) (n c : Nat) (l : Int) (w : World) (hn : n ≤ 9223372036854775807) (h0 : 0 ≤ l) (h1 : l ≤ 1048576) :
    Calls Tryd.prog 58 #[.slice A n c, .int .i64 l] w fun e w' => e = .returned (.int .i64 (if l < n then -1 else l - n)) ∧ w = w' := by
  by_cases h : l < n
  · have h' : l - n < 0 := by omega
    go_enter Tryd.func58, Tryd.ntmps58
    go_wp2
    go_ret
    exact ⟨rfl, rfl⟩
  · have h' : ¬ l - n < 0 := by omega
    go_enter Tryd.func58, Tryd.ntmps58
    go_wp2
    go_ret
    exact ⟨rfl, rfl⟩

set_option maxHeartbeats 400000 in
theorem szParty_any (A : Option Addr) (n c : Nat) (s l : Int) (w : World) (hn : n ≤ 9223372036854775807) (h0 : 0 ≤ l) (h1 : l ≤ 1048576) :
    Calls Tryd.prog 13 #[.agg #[.slice A n c, .int .i64 s], .int .i64 l] w fun e w' => e = .returned (.int .i64 (if l < n then -1 else l - n)) ∧ Below w.heap.size w w' := by
  by_cases h : l < n
  all_goals
    go_enter Tryd.func13, Tryd.ntmps13
    go_wp2_with fail
    refine (szIntS_any A n c l _ hn h0 h1).mono ?_
    rintro e w' ⟨rfl, rfl⟩
    first | rw [if_pos (by assumption)] | rw [if_neg (by omega)]
    go_wp2
    go_ret
    exact ⟨rfl, (Below.refl _ _).alloc (Nat.le_refl _) _⟩

/-- Are two lists of numbers one and the same? -/
def sameInts (a b : List Int) : Bool := a == b
theorem sameInts_yes {a b : List Int} (h : a = b) : sameInts a b = true := by simp [sameInts, h]
theorem sameInts_no {a b : List Int} (h : a ≠ b) : sameInts a b = false := by simp [sameInts, h]

theorem take_next {a b : List Int} {k : Nat} (ha : k < a.length) (hb : k < b.length) (h : a.take k = b.take k) (he : a[k] = b[k]) : a.take (k + 1) = b.take (k + 1) := by
  rw [List.take_succ_eq_append_getElem ha, List.take_succ_eq_append_getElem hb, h, he]

set_option maxHeartbeats 400000 in
theorem eqIntS_any (A B : Option Addr) (n m c d : Nat) (xs ys : List Int) (w : World) (hA : Holds w A (nums xs)) (hB : Holds w B (nums ys)) (hx : xs.length = n) (hy : ys.length = m)
    (hn : n ≤ 9223372036854775807) (hm : m ≤ 9223372036854775807) :
    Calls Tryd.prog 65 #[.slice A n c, .slice B m d] w fun e w' => e = .returned (.bool (sameInts xs ys)) ∧ ∃ k, w' = w.drewN k := by
  subst hx hy
  by_cases hl : xs.length = ys.length
  · have hl' : ((xs.length : Int) != (ys.length : Int)) = false := by simp [hl]
    have HL := Lib.hid hl
    clear hl
    go_enter Tryd.func65, Tryd.ntmps65
    go_wp2
    go_loopw [5] (fun i wr => ∃ k q : Nat, k ≤ xs.length ∧ i = .int .i64 k ∧ wr = w.drewN q ∧ xs.take k = ys.take k) (fun i _ => xs.length - (intOf i).toNat)
    case atStart => exact ⟨0, 0, Nat.zero_le _, rfl, rfl, rfl⟩
    case round =>
      obtain ⟨k, q, hk, rfl, rfl, ht⟩ := hrel
      have HT := Lib.hid ht
      clear ht
      by_cases hlt : k < xs.length
      · have hlt' : k < ys.length := by have := HL.out; omega
        obtain ⟨b, o, rfl, hb, hc⟩ := hA.look (k := k) (by simpa [nums] using hlt)
        obtain ⟨b', o', rfl, hb', hc'⟩ := hB.look (k := k) (by simpa [nums] using hlt')
        simp only [nums, List.getElem_map] at hc hc'
        by_cases he : xs[k] = ys[k]
        · have hne : (xs[k] != ys[k]) = false := by simp [he]
          have HE := Lib.hid he
          clear he
          go_wp2
          go_quiet (fail)
          go_wp2
          go_roundw
          case rel => exact ⟨k + 1, _, by omega, by go_num, rfl, take_next hlt hlt' HT.out HE.out⟩
          case measure => simp [intOf]; omega
        · have hne : (xs[k] != ys[k]) = true := by simp [he]
          have HN := Lib.hid (sameInts_no (fun h : xs = ys => he (by subst h; rfl)))
          clear he
          go_wp2
          go_quiet (fail)
          go_wp2
          go_ret
          exact ⟨by rw [HN.out]; rfl, q + _, World.drewN_drewN _ _ _⟩
      · have h1 := HT.out
        rw [List.take_of_length_le (by omega), List.take_of_length_le (by have := HL.out; omega)] at h1
        have HN := Lib.hid (sameInts_yes h1)
        clear h1
        go_wp2
        go_ret
        exact ⟨by rw [HN.out]; rfl, _, rfl⟩
  · have hl' : ((xs.length : Int) != (ys.length : Int)) = true := by simp; omega
    have HN := Lib.hid (sameInts_no (fun h : xs = ys => hl (by rw [h])))
    clear hl
    go_enter Tryd.func65, Tryd.ntmps65
    go_wp2
    go_ret
    exact ⟨by rw [HN.out]; rfl, 0, rfl⟩

/-- What stands in the copy behind k rounds: the first k numbers, zeros behind them. -/
def filled (xs : List Int) (k : Nat) : Array Value := (nums (xs.take k ++ List.replicate (xs.length - k) 0)).toArray
theorem filled_done (xs : List Int) : filled xs xs.length = (nums xs).toArray := by simp [filled]
theorem filled_at (xs : List Int) {k : Nat} (h : k < xs.length) : (filled xs k)[k]? = some (.int .i64 0) := by
  simp only [filled, nums, List.getElem?_toArray, List.getElem?_map]
  rw [List.getElem?_append_right (by simp; omega)]
  simp [List.length_take, Nat.min_eq_left (Nat.le_of_lt h), List.getElem?_replicate]
  omega
theorem filled_next (xs : List Int) {k : Nat} (h : k < xs.length) : (filled xs k).setIfInBounds k (.int .i64 xs[k]) = filled xs (k + 1) := by
  apply Array.ext_getElem?
  intro j
  have hk : (xs.take k).length = k := by simp; omega
  have hk1 : (xs.take (k + 1)).length = k + 1 := by simp; omega
  rw [Array.getElem?_setIfInBounds]
  simp only [filled, nums, List.getElem?_toArray, List.getElem?_map, List.size_toArray, List.length_map, List.length_append, hk, List.length_replicate]
  by_cases hj : k = j
  · subst hj
    rw [if_pos rfl, if_pos (by omega), List.getElem?_append_left (by omega)]
    simp [h]
  · rw [if_neg hj]
    by_cases hlt : j < k
    · rw [List.getElem?_append_left (by omega), List.getElem?_append_left (by omega)]
      simp [hlt, Nat.lt_succ_of_lt hlt]
    · rw [List.getElem?_append_right (by omega), List.getElem?_append_right (by omega), hk, hk1]
      simp only [List.getElem?_replicate]
      by_cases hn : j < xs.length
      · rw [if_pos (by omega), if_pos (by omega)]
      · rw [if_neg (by omega), if_neg (by omega)]

theorem made_zeros (n : Nat) : madeCells (Value.int .i64 0).cells (n * 1) = (nums (List.replicate n 0)).toArray := by
  apply Array.ext_getElem?
  intro j
  simp [madeCells, nums, Value.cells, Nat.mod_one, Array.getElem?_range]
  by_cases h : j < n <;> simp [h]

theorem info_int : (Tryd.prog.info? 3).map (fun i => (i.zero, i.size, i.bytes)) = some (some (.int .i64 0), 1, 8) := by kernel_rfl

set_option maxHeartbeats 400000 in
theorem toIntS_any (A : Option Addr) (n c : Nat) (xs : List Int) (w : World) (hA : Holds w A (nums xs)) (hx : xs.length = n) (hn : n ≤ 1048576) :
    Calls Tryd.prog 61 #[.slice A n c] w fun e w' => e = .returned (.slice (some ⟨w.heap.size, 0, none⟩) n n) ∧ Whole w' w.heap.size 3 (nums xs).toArray ∧ Below w.heap.size w w' ∧ w'.heap.size = w.heap.size + 1 := by
  subst hx
  obtain ⟨i0, hi, hz0, hz1, hz2⟩ := info_parts info_int
  have hmk : ∀ W : World, (Instr.makeSlice 22 (.int .i64 (xs.length : Int)) (.int .i64 (xs.length : Int))).run Tryd.prog W = .ok (.slice (some ⟨W.heap.size, 0, none⟩) xs.length xs.length) (W.alloc (.cells (filled xs 0) 3)) := by
    intro W
    have h := run_make (P := Tryd.prog) W 22 3 i0 _ Tryd.underlying22 hi hz0 .i64 .i64 xs.length xs.length (by omega) (by omega) (by rw [hz2]; omega) (by omega)
    simp only [Int.toNat_natCast, hz1, made_zeros] at h
    rw [h]
    simp [filled]
  clear hi hz0 hz1 hz2
  go_enter Tryd.func61, Tryd.ntmps61
  go_wp2
  have h0 := Whole.fresh w 3 (filled xs 0)
  have hb0 : Below w.heap.size w (w.alloc (.cells (filled xs 0) 3)) := (Below.refl _ _).alloc (Nat.le_refl _) _
  go_loopw [4] (fun i wr => ∃ k : Nat, k ≤ xs.length ∧ i = .int .i64 k ∧ Whole wr w.heap.size 3 (filled xs k) ∧ Below w.heap.size w wr ∧ wr.heap.size = w.heap.size + 1) (fun i _ => xs.length - (intOf i).toNat)
  case atStart => exact ⟨0, Nat.zero_le _, rfl, h0, hb0, by simp⟩
  case round =>
    obtain ⟨k, hk, rfl, hw, hb, hs⟩ := hrel
    clear hmk h0 hb0
    by_cases hlt : k < xs.length
    · obtain ⟨b, o, rfl, hbl, hc⟩ := (hA.below hb).look (k := k) (by simpa [nums] using hlt)
      simp only [nums, List.getElem_map] at hc
      have hcell : wr.cell? ⟨w.heap.size, k, none⟩ = some (.int .i64 0) := (hw.cell k).trans (filled_at xs hlt)
      have hfr := hw.open_ k
      have hnext := hw.set_ k (.int .i64 xs[k])
      rw [filled_next xs hlt] at hnext
      have HS := Lib.hid hs
      clear hs
      go_wp2
      go_roundw
      case rel => exact ⟨k + 1, by omega, by go_num, hnext, hb.setCell (Nat.le_refl _) _, by simp [World.setCell]; exact HS.out⟩
      case measure => simp [intOf]; omega
    · have hkn : k = xs.length := by omega
      subst hkn
      rw [filled_done] at hw
      have HS := Lib.hid hs
      clear hs
      go_wp2
      go_ret
      exact ⟨rfl, hw, hb, HS.out⟩

/-- The same, the new row's block told by a letter. -/
theorem toIntS_own (A : Option Addr) (n c : Nat) (xs : List Int) (w : World) (hA : Holds w A (nums xs)) (hx : xs.length = n) (hn : n ≤ 1048576) :
    Calls Tryd.prog 61 #[.slice A n c] w fun e w' => ∃ g, e = .returned (.slice (some ⟨g, 0, none⟩) n n) ∧ w.heap.size ≤ g ∧ Whole w' g 3 (nums xs).toArray ∧ Below w.heap.size w w' :=
  (toIntS_any A n c xs w hA hx hn).mono fun _ _ ⟨he, hw, hb, _⟩ => ⟨_, he, Nat.le_refl _, hw, hb⟩

set_option maxHeartbeats 400000 in
theorem toParty_any (A : Option Addr) (n c : Nat) (xs : List Int) (s : Int) (w : World) (hA : Holds w A (nums xs)) (hx : xs.length = n) (hn : n ≤ 1048576) :
    Calls Tryd.prog 15 #[.agg #[.slice A n c, .int .i64 s]] w fun e w' => e = .returned (.agg #[.slice (some ⟨w.heap.size + 1 + 1 + 1, 0, none⟩) n n, .int .i64 s]) ∧ Whole w' (w.heap.size + 1 + 1 + 1) 3 (nums xs).toArray ∧ Below w.heap.size w w' := by
  have HX := Lib.hid hx
  clear hx
  go_enter Tryd.func15, Tryd.ntmps15
  go_wp2_with fail
  refine (toIntS_any A n c xs _ (((hA.alloc _).alloc _).alloc _) HX.out hn).mono ?_
  rintro e w1 ⟨rfl, hw, hb, hs⟩
  obtain ⟨hc, hf⟩ := kept hb
  have HS := Lib.hid hs
  have hz : w.heap.size + 3 < w1.heap.size := by have := HS.out; simp at this; omega
  clear hs
  have hw' : Whole w1 (w.heap.size + 1 + 1 + 1) 3 (nums xs).toArray := by simpa using hw
  have hb' : Below w.heap.size w w1 := below_then (below3 w _ _ _) hb (by simp; omega)
  clear hw
  go_wp2
  refine bodyPost_ret (v := .agg #[.slice (some ⟨w.heap.size + 1 + 1 + 1, 0, none⟩) n n, .int .i64 s]) (by simp [results, Tryd.results15, go_sem, hc]) rfl ⟨rfl, ?_, ?_⟩
  · exact (((hw'.off (by omega)).off (by omega)).off (by omega)).off (by omega)
  · exact below_set (below_set (below_set (below_set hb' (by omega)) (by omega)) (by omega)) (by omega)

/-- The same, the new row's block told by a letter. -/
theorem toParty_own (A : Option Addr) (n c : Nat) (xs : List Int) (s : Int) (w : World) (hA : Holds w A (nums xs)) (hx : xs.length = n) (hn : n ≤ 1048576) :
    Calls Tryd.prog 15 #[.agg #[.slice A n c, .int .i64 s]] w fun e w' => ∃ g, e = .returned (.agg #[.slice (some ⟨g, 0, none⟩) n n, .int .i64 s]) ∧ w.heap.size ≤ g ∧ Whole w' g 3 (nums xs).toArray ∧ Below w.heap.size w w' :=
  (toParty_any A n c xs s w hA hx hn).mono fun _ _ ⟨he, hw, hb⟩ => ⟨_, he, by omega, hw, hb⟩

set_option maxHeartbeats 400000 in
theorem eqParty_any (A B : Option Addr) (n m c d : Nat) (xs ys : List Int) (s t : Int) (w : World) (hA : Holds w A (nums xs)) (hB : Holds w B (nums ys)) (hx : xs.length = n) (hy : ys.length = m)
    (hn : n ≤ 9223372036854775807) (hm : m ≤ 9223372036854775807) :
    Calls Tryd.prog 17 #[.agg #[.slice A n c, .int .i64 s], .agg #[.slice B m d, .int .i64 t]] w fun e w' => e = .returned (.bool (sameInts xs ys && s == t)) ∧ Below w.heap.size w w' := by
  have HX := Lib.hid hx
  have HY := Lib.hid hy
  clear hx hy
  rcases (inferInstance : Decidable (s = t)) with hst | hst
  all_goals
    have hst1 : (s != t) = !decide (s = t) := by simp [bne, hst]
    simp only [hst, decide_false, decide_true, Bool.not_false, Bool.not_true] at hst1
    cases he : sameInts xs ys
  all_goals
    have HE := Lib.hid he
    clear he
    go_enter Tryd.func17, Tryd.ntmps17
    go_wp2_with fail
    refine (eqIntS_any A B n m c d xs ys _ ((hA.alloc _).alloc _) ((hB.alloc _).alloc _) HX.out HY.out hn hm).mono ?_
    rintro e w1 ⟨rfl, k, rfl⟩
    rw [HE.out]
    go_wp2
    go_ret
    exact ⟨ret_of (by simp_all), below_draws (below2 w _ _) k⟩

/-- Two parties of one reading are the same. -/
theorem eqParty_yes (A B : Option Addr) (n c d : Nat) (xs : List Int) (s : Int) (w : World) (hA : Holds w A (nums xs)) (hB : Holds w B (nums xs)) (hx : xs.length = n) (hn : n ≤ 9223372036854775807) :
    Calls Tryd.prog 17 #[.agg #[.slice A n c, .int .i64 s], .agg #[.slice B n d, .int .i64 s]] w fun e w' => e = .returned (.bool true) ∧ Below w.heap.size w w' :=
  (eqParty_any A B n n c d xs xs s s w hA hB hx hx hn hn).mono fun _ _ ⟨he, hb⟩ => ⟨by rw [he, sameInts_yes rfl]; simp, hb⟩
end Go.Proofs.YtedkanncdkofaaaDoor

namespace Go.Proofs.YtedkanncdkofaaaDoor
open Go.RowKit

/-- Does a number lie within bounds? -/
def within (n lo hi : Int) : Bool := decide (lo ≤ n ∧ n ≤ hi)
theorem within_yes {n lo hi : Int} (h1 : lo ≤ n) (h2 : n ≤ hi) : within n lo hi = true := by simp [within, h1, h2]
theorem within_no {n lo hi : Int} (h : n < lo ∨ hi < n) : within n lo hi = false := by simp [within]; omega
theorem within_iff {n lo hi : Int} : within n lo hi = true ↔ lo ≤ n ∧ n ≤ hi := by simp [within]
theorem within_false {n lo hi : Int} (h : within n lo hi = false) : n < lo ∨ hi < n := by simp [within] at h; omega

set_option maxHeartbeats 400000 in
theorem l1In_any (n lo hi : Int) (w : World) :
    Calls Tryd.prog 110 #[.int .i64 n, .int .i64 lo, .int .i64 hi] w fun e w' => e = .returned (.bool (within n lo hi)) ∧ w = w' := by
  by_cases h1 : lo ≤ n
  · by_cases h2 : n ≤ hi
    · have HW := Lib.hid (within_yes h1 h2)
      go_enter Tryd.func110, Tryd.ntmps110
      go_wp2
      go_ret
      exact ⟨ret_of (by rw [HW.out]; rfl), rfl⟩
    · have HW := Lib.hid (within_no (lo := lo) (.inr (Int.not_le.1 h2)))
      go_enter Tryd.func110, Tryd.ntmps110
      go_wp2
      go_ret
      exact ⟨ret_of (by rw [HW.out]; rfl), rfl⟩
  · have HW := Lib.hid (within_no (hi := hi) (.inl (Int.not_le.1 h1)))
    go_enter Tryd.func110, Tryd.ntmps110
    go_wp2
    go_ret
    exact ⟨ret_of (by rw [HW.out]; rfl), rfl⟩

/-- Do all numbers lie within bounds? -/
def allIn (xs : List Int) (lo hi : Int) : Bool := xs.all fun x => within x lo hi
theorem allIn_no {xs : List Int} {lo hi : Int} {k : Nat} (h : k < xs.length) (hw : within xs[k] lo hi = false) : allIn xs lo hi = false := by
  rw [allIn, List.all_eq_false]
  exact ⟨xs[k], List.getElem_mem h, by simp [hw]⟩
theorem allIn_yes {xs : List Int} {lo hi : Int} (h : ∀ k (hk : k < xs.length), within xs[k] lo hi = true) : allIn xs lo hi = true := by
  rw [allIn, List.all_eq_true]
  intro x hx
  obtain ⟨k, hk, rfl⟩ := List.getElem_of_mem hx
  exact h k hk

/-- All of the first k numbers lie within the bounds. -/
def SoFar (xs : List Int) (lo hi : Int) (k : Nat) : Prop := ∀ j (h : j < xs.length), j < k → within xs[j] lo hi = true

set_option maxHeartbeats 400000 in
theorem l1All_any (A : Option Addr) (n c : Nat) (xs : List Int) (lo hi : Int) (w : World) (hA : Holds w A (nums xs)) (hx : xs.length = n) (hn : n ≤ 9223372036854775807) :
    Calls Tryd.prog 111 #[.slice A n c, .int .i64 lo, .int .i64 hi] w fun e w' => e = .returned (.bool (allIn xs lo hi)) ∧ w = w' := by
  subst hx
  go_enter Tryd.func111, Tryd.ntmps111
  go_wp2
  go_loop [11] (fun i => ∃ k : Nat, k ≤ xs.length ∧ i = .int .i64 k ∧ SoFar xs lo hi k) (fun i => xs.length - (intOf i).toNat)
  case atStart => exact ⟨0, Nat.zero_le _, rfl, fun j _ hj => absurd hj (by omega)⟩
  case round =>
    obtain ⟨k, hk, rfl, hs⟩ := hrel
    by_cases hlt : k < xs.length
    · obtain ⟨b, o, rfl, hb, hc⟩ := hA.look (k := k) (by simpa [nums] using hlt)
      simp only [nums, List.getElem_map] at hc
      cases hw : within xs[k] lo hi
      · have HN := Lib.hid (allIn_no hlt hw)
        have HW := Lib.hid hw
        clear hw
        go_wp2_with (go_at_call 110; refine (l1In_any _ _ _ _).mono ?_; rintro e w' ⟨rfl, rfl⟩; rw [HW.out])
        go_ret
        exact ⟨ret_of (by rw [HN.out]; rfl), rfl⟩
      · have HW := Lib.hid hw
        clear hw
        go_wp2_with (go_at_call 110; refine (l1In_any _ _ _ _).mono ?_; rintro e w' ⟨rfl, rfl⟩; rw [HW.out])
        go_round
        case rel => exact ⟨k + 1, by omega, by go_num, fun j h hj => (Nat.lt_succ_iff_lt_or_eq.1 hj).elim (hs j h) (fun e => by subst e; exact HW.out)⟩
        case measure => simp [intOf]; omega
    · have HN := Lib.hid (allIn_yes (fun j h => hs j h (by omega)))
      go_wp2
      go_ret
      exact ⟨ret_of (by rw [HN.out]; rfl), rfl⟩

/-- A party, told in plain words: up to eight people with times up to 1000, up to three seats. -/
def isParty (xs : List Int) (s : Int) : Bool := within xs.length 1 8 && (allIn xs 1 1000 && within s 1 3)

set_option maxHeartbeats 400000 in
theorem paGood_any (A : Option Addr) (n c : Nat) (xs : List Int) (s : Int) (w : World) (hA : Holds w A (nums xs)) (hx : xs.length = n) (hn : n ≤ 9223372036854775807) :
    Calls Tryd.prog 59 #[.agg #[.slice A n c, .int .i64 s]] w fun e w' => e = .returned (.bool (isParty xs s)) ∧ Below w.heap.size w w' := by
  subst hx
  have hB := hA.alloc (.cells #[.slice A xs.length c, .int .i64 s] 28)
  cases h1 : within xs.length 1 8
  · have HP : Hid (isParty xs s = false) := by show _ = _; simp [isParty, h1]
    have H1 := Lib.hid h1
    clear h1
    go_enter Tryd.func59, Tryd.ntmps59
    go_wp2_with fail
    refine (l1In_any _ _ _ _).mono ?_
    rintro e w' ⟨rfl, rfl⟩
    rw [H1.out]
    go_wp2
    go_ret
    exact ⟨ret_of (by rw [HP.out]; rfl), below1 w _⟩
  · cases h2 : allIn xs 1 1000
    · have HP : Hid (isParty xs s = false) := by show _ = _; simp [isParty, h2]
      have H1 := Lib.hid h1
      have H2 := Lib.hid h2
      clear h1 h2
      go_enter Tryd.func59, Tryd.ntmps59
      go_wp2_with fail
      refine (l1In_any _ _ _ _).mono ?_
      rintro e w' ⟨rfl, rfl⟩
      rw [H1.out]
      go_wp2_with fail
      refine (l1All_any _ _ _ xs _ _ _ hB rfl hn).mono ?_
      rintro e w' ⟨rfl, rfl⟩
      rw [H2.out]
      go_wp2
      go_ret
      exact ⟨ret_of (by rw [HP.out]; rfl), below1 w _⟩
    · have HP : Hid (isParty xs s = within s 1 3) := by show _ = _; simp [isParty, h1, h2]
      have H1 := Lib.hid h1
      have H2 := Lib.hid h2
      clear h1 h2
      go_enter Tryd.func59, Tryd.ntmps59
      go_wp2_with fail
      refine (l1In_any _ _ _ _).mono ?_
      rintro e w' ⟨rfl, rfl⟩
      rw [H1.out]
      go_wp2_with fail
      refine (l1All_any _ _ _ xs _ _ _ hB rfl hn).mono ?_
      rintro e w' ⟨rfl, rfl⟩
      rw [H2.out]
      go_wp2_with fail
      refine (l1In_any _ _ _ _).mono ?_
      rintro e w' ⟨rfl, rfl⟩
      go_wp2
      go_ret
      exact ⟨ret_of (by rw [HP.out]; rfl), below1 w _⟩

end Go.Proofs.YtedkanncdkofaaaDoor

namespace Go.Proofs.YtedkanncdkofaaaDoor
open Go.RowKit

def leastOf : List Int → Int | [] => 0 | x :: l => l.foldl min x
def mostOf : List Int → Int | [] => 0 | x :: l => l.foldl max x
theorem leastOf_snoc {l : List Int} (h : l ≠ []) (x : Int) : leastOf (l ++ [x]) = min (leastOf l) x := by
  cases l with
  | nil => exact absurd rfl h
  | cons y l => simp [leastOf, List.foldl_append]
theorem mostOf_snoc {l : List Int} (h : l ≠ []) (x : Int) : mostOf (l ++ [x]) = max (mostOf l) x := by
  cases l with
  | nil => exact absurd rfl h
  | cons y l => simp [mostOf, List.foldl_append]
theorem le_foldl (l : List Int) (x b : Int) : b ≤ l.foldl min x ↔ b ≤ x ∧ ∀ y ∈ l, b ≤ y := by
  induction l generalizing x with
  | nil => simp
  | cons y l ih =>
    simp only [List.foldl_cons, ih, List.mem_cons, forall_eq_or_imp]
    constructor
    · rintro ⟨h, k⟩; exact ⟨by omega, by omega, k⟩
    · rintro ⟨h, k, m⟩; exact ⟨by omega, m⟩
theorem foldl_le (l : List Int) (x b : Int) : l.foldl max x ≤ b ↔ x ≤ b ∧ ∀ y ∈ l, y ≤ b := by
  induction l generalizing x with
  | nil => simp
  | cons y l ih =>
    simp only [List.foldl_cons, ih, List.mem_cons, forall_eq_or_imp]
    constructor
    · rintro ⟨h, k⟩; exact ⟨by omega, by omega, k⟩
    · rintro ⟨h, k, m⟩; exact ⟨by omega, m⟩
theorem le_leastOf {l : List Int} (h : l ≠ []) (b : Int) : b ≤ leastOf l ↔ ∀ y ∈ l, b ≤ y := by
  cases l with
  | nil => exact absurd rfl h
  | cons x l => simp [leastOf, le_foldl]
theorem mostOf_le {l : List Int} (h : l ≠ []) (b : Int) : mostOf l ≤ b ↔ ∀ y ∈ l, y ≤ b := by
  cases l with
  | nil => exact absurd rfl h
  | cons x l => simp [mostOf, foldl_le]
theorem allIn_iff (l : List Int) (lo hi : Int) : allIn l lo hi = true ↔ ∀ y ∈ l, lo ≤ y ∧ y ≤ hi := by simp [allIn, within]
theorem leastOf_next {xs : List Int} {k : Nat} (h0 : 0 < k) (hk : k < xs.length) : leastOf (xs.take (k + 1)) = min (leastOf (xs.take k)) xs[k] := by
  rw [List.take_succ_eq_append_getElem hk]
  exact leastOf_snoc (by intro h; have := congrArg List.length h; rw [List.length_take, List.length_nil] at this; omega) _
theorem mostOf_next {xs : List Int} {k : Nat} (h0 : 0 < k) (hk : k < xs.length) : mostOf (xs.take (k + 1)) = max (mostOf (xs.take k)) xs[k] := by
  rw [List.take_succ_eq_append_getElem hk]
  exact mostOf_snoc (by intro h; have := congrArg List.length h; rw [List.length_take, List.length_nil] at this; omega) _

set_option maxHeartbeats 400000 in
theorem sliceMin_any (A : Option Addr) (n c : Nat) (xs : List Int) (w : World) (hA : Holds w A (nums xs)) (hx : xs.length = n) (h0 : 0 < n) (hn : n ≤ 9223372036854775807) :
    Calls Tryd.prog 113 #[.slice A n c] w fun e w' => e = .returned (.int .i64 (leastOf xs)) ∧ w = w' := by
  subst hx
  obtain ⟨b, o, rfl, hb, hc⟩ := hA.look (k := 0) (by simpa [nums] using h0)
  simp only [nums, List.getElem_map, Nat.add_zero] at hc
  have h1 : (0 : Int) < xs.length := by omega
  go_enter Tryd.func113, Tryd.ntmps113
  go_wp2
  go_loop [3, 4] (fun m i => ∃ k : Nat, 0 < k ∧ k ≤ xs.length ∧ i = .int .i64 k ∧ m = .int .i64 (leastOf (xs.take k))) (fun _ i => xs.length - (intOf i).toNat)
  case atStart => exact ⟨1, by omega, by omega, rfl, by rw [List.take_succ_eq_append_getElem h0]; rfl⟩
  case round =>
    obtain ⟨k, hk0, hk, rfl, rfl⟩ := hrel
    clear hc
    by_cases hlt : k < xs.length
    · obtain ⟨b', o', hA', hb', hc⟩ := hA.look (k := k) (by simpa [nums] using hlt)
      simp only [Option.some.injEq, Addr.mk.injEq] at hA'
      obtain ⟨rfl, rfl, -⟩ := hA'
      simp only [nums, List.getElem_map] at hc
      have HS := Lib.hid (leastOf_next hk0 hlt)
      go_wp2
      go_round
      case rel => exact ⟨k + 1, by omega, by omega, by go_num, by first | (rw [HS.out]; done) | (rw [HS.out]; exact congrArg _ (by split <;> omega))⟩
      case measure => simp [intOf]; omega
    · have hkn : k = xs.length := by omega
      subst hkn
      go_wp2
      go_ret
      exact ⟨rfl, rfl⟩

set_option maxHeartbeats 400000 in
theorem sliceMax_any (A : Option Addr) (n c : Nat) (xs : List Int) (w : World) (hA : Holds w A (nums xs)) (hx : xs.length = n) (h0 : 0 < n) (hn : n ≤ 9223372036854775807) :
    Calls Tryd.prog 114 #[.slice A n c] w fun e w' => e = .returned (.int .i64 (mostOf xs)) ∧ w = w' := by
  subst hx
  obtain ⟨b, o, rfl, hb, hc⟩ := hA.look (k := 0) (by simpa [nums] using h0)
  simp only [nums, List.getElem_map, Nat.add_zero] at hc
  have h1 : (0 : Int) < xs.length := by omega
  go_enter Tryd.func114, Tryd.ntmps114
  go_wp2
  go_loop [3, 4] (fun m i => ∃ k : Nat, 0 < k ∧ k ≤ xs.length ∧ i = .int .i64 k ∧ m = .int .i64 (mostOf (xs.take k))) (fun _ i => xs.length - (intOf i).toNat)
  case atStart => exact ⟨1, by omega, by omega, rfl, by rw [List.take_succ_eq_append_getElem h0]; rfl⟩
  case round =>
    obtain ⟨k, hk0, hk, rfl, rfl⟩ := hrel
    clear hc
    by_cases hlt : k < xs.length
    · obtain ⟨b', o', hA', hb', hc⟩ := hA.look (k := k) (by simpa [nums] using hlt)
      simp only [Option.some.injEq, Addr.mk.injEq] at hA'
      obtain ⟨rfl, rfl, -⟩ := hA'
      simp only [nums, List.getElem_map] at hc
      have HS := Lib.hid (mostOf_next hk0 hlt)
      go_wp2
      go_round
      case rel => exact ⟨k + 1, by omega, by omega, by go_num, by first | (rw [HS.out]; done) | (rw [HS.out]; exact congrArg _ (by split <;> omega))⟩
      case measure => simp [intOf]; omega
    · have hkn : k = xs.length := by omega
      subst hkn
      go_wp2
      go_ret
      exact ⟨rfl, rfl⟩

theorem isParty_min {xs : List Int} {s : Int} (h1 : 0 < xs.length) (h : leastOf xs < 1) : isParty xs s = false := by
  have hne : xs ≠ [] := by intro e; subst e; simp at h1
  have h2 : allIn xs 1 1000 = false := by
    cases h3 : allIn xs 1 1000
    · rfl
    · have h4 := (le_leastOf hne 1).2 fun y hy => ((allIn_iff _ _ _).1 h3 y hy).1
      omega
  simp [isParty, h2]
theorem isParty_max {xs : List Int} {s : Int} (h1 : 0 < xs.length) (h : 1000 < mostOf xs) : isParty xs s = false := by
  have hne : xs ≠ [] := by intro e; subst e; simp at h1
  have h2 : allIn xs 1 1000 = false := by
    cases h3 : allIn xs 1 1000
    · rfl
    · have h4 := (mostOf_le hne 1000).2 fun y hy => ((allIn_iff _ _ _).1 h3 y hy).2
      omega
  simp [isParty, h2]
theorem isParty_yes {xs : List Int} {s : Int} (h1 : 0 < xs.length) (h8 : xs.length ≤ 8) (h : 1 ≤ leastOf xs) (h' : mostOf xs ≤ 1000) (hs : 1 ≤ s) (hs' : s ≤ 3) : isParty xs s = true := by
  have hne : xs ≠ [] := by intro e; subst e; simp at h1
  have h3 : allIn xs 1 1000 = true := (allIn_iff _ _ _).2 fun y hy => ⟨(le_leastOf hne 1).1 h y hy, (mostOf_le hne 1000).1 h' y hy⟩
  simp only [isParty, h3, within_yes hs hs', within_yes (show (1 : Int) ≤ xs.length by omega) (show (xs.length : Int) ≤ 8 by omega), Bool.and_self]
theorem isParty_len {xs : List Int} {s : Int} (h : xs.length < 1 ∨ 8 < xs.length) : isParty xs s = false := by
  simp only [isParty, within_no (show (xs.length : Int) < 1 ∨ (8 : Int) < xs.length by omega), Bool.false_and]
theorem isParty_seats {xs : List Int} {s : Int} (h : s < 1 ∨ 3 < s) : isParty xs s = false := by
  simp only [isParty, within_no h, Bool.and_false]

set_option maxHeartbeats 400000 in
theorem isParty_any (A : Option Addr) (n c : Nat) (xs : List Int) (s : Int) (w : World) (hA : Holds w A (nums xs)) (hx : xs.length = n) (hn : n ≤ 9223372036854775807) :
    Calls Tryd.prog 62 #[.agg #[.slice A n c, .int .i64 s]] w fun e w' => e = .returned (.bool (isParty xs s)) ∧ Below w.heap.size w w' := by
  subst hx
  have hB := hA.alloc (.cells #[.slice A xs.length c, .int .i64 s] 28)
  by_cases h1 : xs.length < 1
  · have HP := Lib.hid (isParty_len (s := s) (.inl h1))
    go_enter Tryd.func62, Tryd.ntmps62
    go_wp2
    go_ret
    exact ⟨ret_of (by rw [HP.out]; rfl), below1 w _⟩
  by_cases h8 : 8 < xs.length
  · have HP := Lib.hid (isParty_len (s := s) (.inr h8))
    go_enter Tryd.func62, Tryd.ntmps62
    go_wp2
    go_ret
    exact ⟨ret_of (by rw [HP.out]; rfl), below1 w _⟩
  by_cases hs1 : s < 1
  · have HP := Lib.hid (isParty_seats (xs := xs) (.inl hs1))
    go_enter Tryd.func62, Tryd.ntmps62
    go_wp2
    go_ret
    exact ⟨ret_of (by rw [HP.out]; rfl), below1 w _⟩
  by_cases hs3 : 3 < s
  · have HP := Lib.hid (isParty_seats (xs := xs) (.inr hs3))
    go_enter Tryd.func62, Tryd.ntmps62
    go_wp2
    go_ret
    exact ⟨ret_of (by rw [HP.out]; rfl), below1 w _⟩
  have hp : 0 < xs.length := by omega
  by_cases hl : leastOf xs < 1
  · have HP := Lib.hid (isParty_min (s := s) hp hl)
    go_enter Tryd.func62, Tryd.ntmps62
    go_wp2_with fail
    refine (sliceMin_any A _ c xs _ hB rfl hp hn).mono ?_
    rintro e w' ⟨rfl, rfl⟩
    go_wp2
    go_ret
    exact ⟨ret_of (by rw [HP.out]; rfl), below1 w _⟩
  by_cases hm : 1000 < mostOf xs
  · have HP := Lib.hid (isParty_max (s := s) hp hm)
    go_enter Tryd.func62, Tryd.ntmps62
    go_wp2_with fail
    refine (sliceMin_any A _ c xs _ hB rfl hp hn).mono ?_
    rintro e w' ⟨rfl, rfl⟩
    go_wp2_with fail
    refine (sliceMax_any A _ c xs _ hB rfl hp hn).mono ?_
    rintro e w' ⟨rfl, rfl⟩
    go_wp2
    go_ret
    exact ⟨ret_of (by rw [HP.out]; show Value.bool (decide (mostOf xs ≤ 1000)) = _; rw [decide_eq_false (by omega)]), below1 w _⟩
  · have HP := Lib.hid (isParty_yes (s := s) hp (by omega) (by omega) (by omega) (by omega) (by omega))
    go_enter Tryd.func62, Tryd.ntmps62
    go_wp2_with fail
    refine (sliceMin_any A _ c xs _ hB rfl hp hn).mono ?_
    rintro e w' ⟨rfl, rfl⟩
    go_wp2_with fail
    refine (sliceMax_any A _ c xs _ hB rfl hp hn).mono ?_
    rintro e w' ⟨rfl, rfl⟩
    go_wp2
    go_ret
    exact ⟨ret_of (by rw [HP.out]; rfl), below1 w _⟩
end Go.Proofs.YtedkanncdkofaaaDoor

namespace Go.Proofs.YtedkanncdkofaaaDoor
open Go.RowKit

set_option maxHeartbeats 400000 in
theorem szBoolS_any (A : Option Addr) (n c : Nat) (l : Int) (w : World) (hn : n ≤ 9223372036854775807) (h0 : 0 ≤ l) (h1 : l ≤ 1048576) :
    Calls Tryd.prog 84 #[.slice A n c, .int .i64 l] w fun e w' => e = .returned (.int .i64 (if l < n then -1 else l - n)) ∧ w = w' := by
  by_cases h : l < n
  · have h' : l - n < 0 := by omega
    go_enter Tryd.func84, Tryd.ntmps84
    go_wp2
    go_ret
    exact ⟨rfl, rfl⟩
  · have h' : ¬ l - n < 0 := by omega
    go_enter Tryd.func84, Tryd.ntmps84
    go_wp2
    go_ret
    exact ⟨rfl, rfl⟩

/-- Are two lists of numbers one and the same? -/
def sameBits (a b : List Bool) : Bool := a == b
theorem sameBits_yes {a b : List Bool} (h : a = b) : sameBits a b = true := by simp [sameBits, h]
theorem sameBits_no {a b : List Bool} (h : a ≠ b) : sameBits a b = false := by simp [sameBits, h]

theorem take_nextB {a b : List Bool} {k : Nat} (ha : k < a.length) (hb : k < b.length) (h : a.take k = b.take k) (he : a[k] = b[k]) : a.take (k + 1) = b.take (k + 1) := by
  rw [List.take_succ_eq_append_getElem ha, List.take_succ_eq_append_getElem hb, h, he]

set_option maxHeartbeats 400000 in
theorem eqBoolS_any (A B : Option Addr) (n m c d : Nat) (xs ys : List Bool) (w : World) (hA : Holds w A (bits xs)) (hB : Holds w B (bits ys)) (hx : xs.length = n) (hy : ys.length = m)
    (hn : n ≤ 9223372036854775807) (hm : m ≤ 9223372036854775807) :
    Calls Tryd.prog 89 #[.slice A n c, .slice B m d] w fun e w' => e = .returned (.bool (sameBits xs ys)) ∧ ∃ k, w' = w.drewN k := by
  subst hx hy
  by_cases hl : xs.length = ys.length
  · have hl' : ((xs.length : Int) != (ys.length : Int)) = false := by simp [hl]
    have HL := Lib.hid hl
    clear hl
    go_enter Tryd.func89, Tryd.ntmps89
    go_wp2
    go_loopw [5] (fun i wr => ∃ k q : Nat, k ≤ xs.length ∧ i = .int .i64 k ∧ wr = w.drewN q ∧ xs.take k = ys.take k) (fun i _ => xs.length - (intOf i).toNat)
    case atStart => exact ⟨0, 0, Nat.zero_le _, rfl, rfl, rfl⟩
    case round =>
      obtain ⟨k, q, hk, rfl, rfl, ht⟩ := hrel
      have HT := Lib.hid ht
      clear ht
      by_cases hlt : k < xs.length
      · have hlt' : k < ys.length := by have := HL.out; omega
        obtain ⟨b, o, rfl, hb, hc⟩ := hA.look (k := k) (by simpa [bits] using hlt)
        obtain ⟨b', o', rfl, hb', hc'⟩ := hB.look (k := k) (by simpa [bits] using hlt')
        simp only [bits, List.getElem_map] at hc hc'
        by_cases he : xs[k] = ys[k]
        · have hne : (!(xs[k] == ys[k])) = false := by simp [he]
          have HE := Lib.hid he
          clear he
          go_wp2
          go_quiet (fail)
          go_wp2
          go_roundw
          case rel => exact ⟨k + 1, _, by omega, by go_num, rfl, take_nextB hlt hlt' HT.out HE.out⟩
          case measure => simp [intOf]; omega
        · have hne : (!(xs[k] == ys[k])) = true := by simp [he]
          have HN := Lib.hid (sameBits_no (fun h : xs = ys => he (by subst h; rfl)))
          clear he
          go_wp2
          go_quiet (fail)
          go_wp2
          go_ret
          exact ⟨by rw [HN.out]; rfl, q + _, World.drewN_drewN _ _ _⟩
      · have h1 := HT.out
        rw [List.take_of_length_le (by omega), List.take_of_length_le (by have := HL.out; omega)] at h1
        have HN := Lib.hid (sameBits_yes h1)
        clear h1
        go_wp2
        go_ret
        exact ⟨by rw [HN.out]; rfl, _, rfl⟩
  · have hl' : ((xs.length : Int) != (ys.length : Int)) = true := by simp; omega
    have HN := Lib.hid (sameBits_no (fun h : xs = ys => hl (by rw [h])))
    clear hl
    go_enter Tryd.func89, Tryd.ntmps89
    go_wp2
    go_ret
    exact ⟨by rw [HN.out]; rfl, 0, rfl⟩

/-- What stands in the copy behind k rounds: the first k numbers, zeros behind them. -/
def filledB (xs : List Bool) (k : Nat) : Array Value := (bits (xs.take k ++ List.replicate (xs.length - k) false)).toArray
theorem filledB_done (xs : List Bool) : filledB xs xs.length = (bits xs).toArray := by simp [filledB]
theorem filledB_at (xs : List Bool) {k : Nat} (h : k < xs.length) : (filledB xs k)[k]? = some (.bool false) := by
  simp only [filledB, bits, List.getElem?_toArray, List.getElem?_map]
  rw [List.getElem?_append_right (by simp; omega)]
  simp [List.length_take, Nat.min_eq_left (Nat.le_of_lt h), List.getElem?_replicate]
  omega
theorem filledB_next (xs : List Bool) {k : Nat} (h : k < xs.length) : (filledB xs k).setIfInBounds k (.bool xs[k]) = filledB xs (k + 1) := by
  apply Array.ext_getElem?
  intro j
  have hk : (xs.take k).length = k := by simp; omega
  have hk1 : (xs.take (k + 1)).length = k + 1 := by simp; omega
  rw [Array.getElem?_setIfInBounds]
  simp only [filledB, bits, List.getElem?_toArray, List.getElem?_map, List.size_toArray, List.length_map, List.length_append, hk, List.length_replicate]
  by_cases hj : k = j
  · subst hj
    rw [if_pos rfl, if_pos (by omega), List.getElem?_append_left (by omega)]
    simp [h]
  · rw [if_neg hj]
    by_cases hlt : j < k
    · rw [List.getElem?_append_left (by omega), List.getElem?_append_left (by omega)]
      simp [hlt, Nat.lt_succ_of_lt hlt]
    · rw [List.getElem?_append_right (by omega), List.getElem?_append_right (by omega), hk, hk1]
      simp only [List.getElem?_replicate]
      by_cases hn : j < xs.length
      · rw [if_pos (by omega), if_pos (by omega)]
      · rw [if_neg (by omega), if_neg (by omega)]

theorem made_falses (n : Nat) : madeCells (Value.bool false).cells (n * 1) = (bits (List.replicate n false)).toArray := by
  apply Array.ext_getElem?
  intro j
  simp [madeCells, bits, Value.cells, Nat.mod_one, Array.getElem?_range]
  by_cases h : j < n <;> simp [h]

theorem info_bool : (Tryd.prog.info? 4).map (fun i => (i.zero, i.size, i.bytes)) = some (some (.bool false), 1, 1) := by kernel_rfl

set_option maxHeartbeats 400000 in
theorem toBoolS_any (A : Option Addr) (n c : Nat) (xs : List Bool) (w : World) (hA : Holds w A (bits xs)) (hx : xs.length = n) (hn : n ≤ 1048576) :
    Calls Tryd.prog 87 #[.slice A n c] w fun e w' => e = .returned (.slice (some ⟨w.heap.size, 0, none⟩) n n) ∧ Whole w' w.heap.size 4 (bits xs).toArray ∧ Below w.heap.size w w' ∧ w'.heap.size = w.heap.size + 1 := by
  subst hx
  obtain ⟨i0, hi, hz0, hz1, hz2⟩ := info_parts info_bool
  have hmk : ∀ W : World, (Instr.makeSlice 48 (.int .i64 (xs.length : Int)) (.int .i64 (xs.length : Int))).run Tryd.prog W = .ok (.slice (some ⟨W.heap.size, 0, none⟩) xs.length xs.length) (W.alloc (.cells (filledB xs 0) 4)) := by
    intro W
    have h := run_make (P := Tryd.prog) W 48 4 i0 _ Tryd.underlying48 hi hz0 .i64 .i64 xs.length xs.length (by omega) (by omega) (by rw [hz2]; omega) (by omega)
    simp only [Int.toNat_natCast, hz1, made_falses] at h
    rw [h]
    simp [filledB]
  clear hi hz0 hz1 hz2
  go_enter Tryd.func87, Tryd.ntmps87
  go_wp2
  have h0 := Whole.fresh w 4 (filledB xs 0)
  have hb0 : Below w.heap.size w (w.alloc (.cells (filledB xs 0) 4)) := (Below.refl _ _).alloc (Nat.le_refl _) _
  go_loopw [4] (fun i wr => ∃ k : Nat, k ≤ xs.length ∧ i = .int .i64 k ∧ Whole wr w.heap.size 4 (filledB xs k) ∧ Below w.heap.size w wr ∧ wr.heap.size = w.heap.size + 1) (fun i _ => xs.length - (intOf i).toNat)
  case atStart => exact ⟨0, Nat.zero_le _, rfl, h0, hb0, by simp⟩
  case round =>
    obtain ⟨k, hk, rfl, hw, hb, hs⟩ := hrel
    clear hmk h0 hb0
    by_cases hlt : k < xs.length
    · obtain ⟨b, o, rfl, hbl, hc⟩ := (hA.below hb).look (k := k) (by simpa [bits] using hlt)
      simp only [bits, List.getElem_map] at hc
      have hcell : wr.cell? ⟨w.heap.size, k, none⟩ = some (.bool false) := (hw.cell k).trans (filledB_at xs hlt)
      have hfr := hw.open_ k
      have hnext := hw.set_ k (.bool xs[k])
      rw [filledB_next xs hlt] at hnext
      have HS := Lib.hid hs
      clear hs
      go_wp2
      go_roundw
      case rel => exact ⟨k + 1, by omega, by go_num, hnext, hb.setCell (Nat.le_refl _) _, by simp [World.setCell]; exact HS.out⟩
      case measure => simp [intOf]; omega
    · have hkn : k = xs.length := by omega
      subst hkn
      rw [filledB_done] at hw
      have HS := Lib.hid hs
      clear hs
      go_wp2
      go_ret
      exact ⟨rfl, hw, hb, HS.out⟩

end Go.Proofs.YtedkanncdkofaaaDoor

namespace Go.Proofs.YtedkanncdkofaaaDoor
open Go.RowKit

/-- A state, told in plain words: as long as the party, and the torch is where somebody is. -/
def isState (n : Nat) (bs : List Bool) (t : Bool) : Bool := decide (bs.length = n) && bs.any (· == t)
theorem isState_len {n : Nat} {bs : List Bool} {t : Bool} (h : bs.length ≠ n) : isState n bs t = false := by simp [isState, h]
theorem isState_has {n : Nat} {bs : List Bool} {t : Bool} (h : bs.length = n) {k : Nat} (hk : k < bs.length) (he : bs[k] = t) : isState n bs t = true := by
  simp only [isState, h, decide_true, Bool.true_and, List.any_eq_true]
  exact ⟨bs[k], List.getElem_mem hk, by simp [he]⟩
theorem isState_none {n : Nat} {bs : List Bool} {t : Bool} (h : ∀ j (hj : j < bs.length), bs[j] ≠ t) : isState n bs t = false := by
  have : bs.any (· == t) = false := by
    rw [List.any_eq_false]
    intro x hx
    obtain ⟨j, hj, rfl⟩ := List.getElem_of_mem hx
    simpa using h j hj
  simp [isState, this]

/-- None of the first k stands where t is. -/
def NoneYet (bs : List Bool) (t : Bool) (k : Nat) : Prop := ∀ j (h : j < bs.length), j < k → bs[j] ≠ t
theorem NoneYet.start (bs : List Bool) (t : Bool) : NoneYet bs t 0 := fun _ _ h => absurd h (by omega)
theorem NoneYet.next {bs : List Bool} {t : Bool} {k : Nat} (h : NoneYet bs t k) (hk : k < bs.length) (hne : bs[k] ≠ t) : NoneYet bs t (k + 1) := fun j hj hlt =>
  (Nat.lt_succ_iff_lt_or_eq.1 hlt).elim (h j hj) (fun e => by subst e; exact hne)
theorem NoneYet.all {bs : List Bool} {t : Bool} {k : Nat} (h : NoneYet bs t k) (hk : bs.length ≤ k) : ∀ j (hj : j < bs.length), bs[j] ≠ t := fun j hj => h j hj (by omega)

/-- What Index hands back: a place from 0 on where t stands, or -1 where it stands nowhere. -/
def IndexPost (bs : List Bool) (t : Bool) (w : World) (e : Ending) (w' : World) : Prop := ∃ r : Int, e = .returned (.int .i64 r) ∧ decide (0 ≤ r) = bs.any (· == t) ∧ w = w'

/-- The cells of a place: eight people, of whom the party's are told, and the torch. -/
def placeCells (bs : List Bool) (t : Bool) : Array Value := #[.bool (bs.getD 0 false), .bool (bs.getD 1 false), .bool (bs.getD 2 false), .bool (bs.getD 3 false), .bool (bs.getD 4 false), .bool (bs.getD 5 false), .bool (bs.getD 6 false), .bool (bs.getD 7 false), .bool t]

theorem place_cells {w : World} {g : Nat} {ty : TypeId} {bs : List Bool} {t : Bool} (h : Whole w g ty (placeCells bs t)) :
    w.cell? ⟨g, 0, none⟩ = some (.bool (bs.getD 0 false)) ∧ w.cell? ⟨g, 1, none⟩ = some (.bool (bs.getD 1 false)) ∧ w.cell? ⟨g, 2, none⟩ = some (.bool (bs.getD 2 false)) ∧ w.cell? ⟨g, 3, none⟩ = some (.bool (bs.getD 3 false)) ∧
    w.cell? ⟨g, 4, none⟩ = some (.bool (bs.getD 4 false)) ∧ w.cell? ⟨g, 5, none⟩ = some (.bool (bs.getD 5 false)) ∧ w.cell? ⟨g, 6, none⟩ = some (.bool (bs.getD 6 false)) ∧ w.cell? ⟨g, 7, none⟩ = some (.bool (bs.getD 7 false)) ∧
    w.cell? ⟨g, 8, none⟩ = some (.bool t) :=
  ⟨(h.cell 0).trans rfl, (h.cell 1).trans rfl, (h.cell 2).trans rfl, (h.cell 3).trans rfl, (h.cell 4).trans rfl, (h.cell 5).trans rfl, (h.cell 6).trans rfl, (h.cell 7).trans rfl, (h.cell 8).trans rfl⟩
theorem place_open {w : World} {g : Nat} {ty : TypeId} {cs : Array Value} (h : Whole w g ty cs) :
    w.frozen? ⟨g, 0, none⟩ = false ∧ w.frozen? ⟨g, 1, none⟩ = false ∧ w.frozen? ⟨g, 2, none⟩ = false ∧ w.frozen? ⟨g, 3, none⟩ = false ∧ w.frozen? ⟨g, 4, none⟩ = false ∧ w.frozen? ⟨g, 5, none⟩ = false ∧ w.frozen? ⟨g, 6, none⟩ = false ∧ w.frozen? ⟨g, 7, none⟩ = false ∧ w.frozen? ⟨g, 8, none⟩ = false :=
  ⟨h.open_ 0, h.open_ 1, h.open_ 2, h.open_ 3, h.open_ 4, h.open_ 5, h.open_ 6, h.open_ 7, h.open_ 8⟩
theorem set_place {w : World} {g B : Nat} {a : World} {v0 v1 v2 v3 v4 v5 v6 v7 v8 : Value} (h : Below B a w) (hg : B ≤ g) :
    Below B a (((((((((w.setCell ⟨g, 0, none⟩ v0).setCell ⟨g, 1, none⟩ v1).setCell ⟨g, 2, none⟩ v2).setCell ⟨g, 3, none⟩ v3).setCell ⟨g, 4, none⟩ v4).setCell ⟨g, 5, none⟩ v5).setCell ⟨g, 6, none⟩ v6).setCell ⟨g, 7, none⟩ v7).setCell ⟨g, 8, none⟩ v8) :=
  below_set (below_set (below_set (below_set (below_set (below_set (below_set (below_set (below_set h hg) hg) hg) hg) hg) hg) hg) hg) hg

theorem size_bool : (Tryd.prog.info? 4).map (·.size) = some 1 := by kernel_rfl

theorem splice_place (bs : List Bool) (t : Bool) (h : bs.length ≤ 8) : splice (placeCells [] t).toList 0 (bits bs) = (placeCells bs t).toList := by
  match bs, h with
  | [], _ => rfl
  | [_], _ => rfl
  | [_, _], _ => rfl
  | [_, _, _], _ => rfl
  | [_, _, _, _], _ => rfl
  | [_, _, _, _, _], _ => rfl
  | [_, _, _, _, _, _], _ => rfl
  | [_, _, _, _, _, _, _], _ => rfl
  | [_, _, _, _, _, _, _, _], _ => rfl
  | _ :: _ :: _ :: _ :: _ :: _ :: _ :: _ :: _ :: _, h => simp at h

end Go.Proofs.YtedkanncdkofaaaDoor

namespace Go.Proofs.YtedkanncdkofaaaDoor
open Go.RowKit

theorem isParty_le {xs : List Int} {s : Int} (h : isParty xs s = true) : xs.length ≤ 8 := by
  simp only [isParty, Bool.and_eq_true] at h
  have := (within_iff.1 h.1).2
  omega

end Go.Proofs.YtedkanncdkofaaaDoor

namespace Go.Proofs.YtedkanncdkofaaaDoor
open Go.RowKit

/-- Place j of a list is a person behind the one before. -/
def Step (l : List Int) (hi : Int) (j : Nat) : Prop := 0 ≤ l.getD j 0 ∧ l.getD j 0 ≤ hi ∧ (j = 0 ∨ l.getD (j - 1) 0 < l.getD j 0)
def StepsTo (l : List Int) (hi : Int) (k : Nat) : Prop := ∀ j, j < k → Step l hi j
/-- A strictly rising list of numbers from 0 to hi. -/
noncomputable def rising (l : List Int) (hi : Int) : Bool := by
  classical
  exact decide (StepsTo l hi l.length)
theorem rising_no {l : List Int} {hi : Int} {k : Nat} (hk : k < l.length) (h : ¬ Step l hi k) : rising l hi = false := by
  classical
  simp only [rising, decide_eq_false_iff_not]
  exact fun hs => h (hs k hk)
theorem rising_yes {l : List Int} {hi : Int} {k : Nat} (h : StepsTo l hi k) (hk : l.length ≤ k) : rising l hi = true := by
  classical
  simp only [rising, decide_eq_true_eq]
  exact fun j hj => h j (by omega)
theorem rising_steps {l : List Int} {hi : Int} (h : rising l hi = true) : StepsTo l hi l.length := by
  classical
  simpa only [rising, decide_eq_true_eq] using h
theorem StepsTo.start (l : List Int) (hi : Int) : StepsTo l hi 0 := fun _ h => absurd h (by omega)
theorem StepsTo.next {l : List Int} {hi : Int} {k : Nat} (h : StepsTo l hi k) (hs : Step l hi k) : StepsTo l hi (k + 1) := fun j hj =>
  (Nat.lt_succ_iff_lt_or_eq.1 hj).elim (h j) (fun e => e ▸ hs)
theorem getD_at (l : List Int) {k : Nat} (hk : k < l.length) : l.getD k 0 = l[k] := by simp [hk]

set_option maxHeartbeats 800000 in
theorem l1Rising_any (A : Option Addr) (n c : Nat) (l : List Int) (hi : Int) (w : World) (hA : Holds w A (nums l)) (hx : l.length = n) (hn : n ≤ 9223372036854775807) :
    Calls Tryd.prog 123 #[.slice A n c, .int .i64 0, .int .i64 hi] w fun e w' => e = .returned (.bool (rising l hi)) ∧ w = w' := by
  subst hx
  go_enter Tryd.func123, Tryd.ntmps123
  go_wp2
  go_loop [11] (fun i => ∃ k : Nat, k ≤ l.length ∧ i = .int .i64 k ∧ StepsTo l hi k) (fun i => l.length - (intOf i).toNat)
  case atStart => exact ⟨0, Nat.zero_le _, rfl, StepsTo.start _ _⟩
  case round =>
    obtain ⟨k, hk, rfl, hs⟩ := hrel
    by_cases hlt : k < l.length
    · obtain ⟨b, o, rfl, hb, hc⟩ := hA.look (k := k) (by simpa [nums] using hlt)
      simp only [nums, List.getElem_map] at hc
      have hg := getD_at l hlt
      cases hw : within l[k] 0 hi
      · have HN := Lib.hid (rising_no (hi := hi) hlt (fun h => by
          have h1 := h.1; have h2 := h.2.1
          rw [hg] at h1 h2
          rw [within_yes h1 h2] at hw
          cases hw))
        have HW := Lib.hid hw
        clear hw hg
        go_wp2_with (go_at_call 110; refine (l1In_any _ _ _ _).mono ?_; rintro e w' ⟨rfl, rfl⟩; rw [HW.out])
        go_ret
        exact ⟨ret_of (by rw [HN.out]; rfl), rfl⟩
      · have hin := within_iff.1 hw
        have HW := Lib.hid hw
        clear hw
        by_cases h0 : k = 0
        · subst h0
          simp only [Nat.add_zero] at hc
          have hst := Lib.hid (hs.next (k := 0) ⟨by rw [hg]; exact hin.1, by rw [hg]; exact hin.2, .inl rfl⟩)
          clear hg hin
          go_wp2_with (go_at_call 110; refine (l1In_any _ _ _ _).mono ?_; rintro e w' ⟨rfl, rfl⟩; rw [HW.out])
          go_round
          case rel => exact ⟨1, by omega, by go_num, hst.out⟩
          case measure => simp [intOf]; omega
        · have hk1 : k - 1 < l.length := by omega
          obtain ⟨b', o', hA', hb', hc'⟩ := hA.look (k := k - 1) (by simpa [nums] using hk1)
          simp only [Option.some.injEq, Addr.mk.injEq] at hA'
          obtain ⟨rfl, rfl, -⟩ := hA'
          simp only [nums, List.getElem_map] at hc'
          have hg' := getD_at l hk1
          have hkp : (0 : Int) < k := by omega
          have htn : ((k : Int) - 1).toNat = k - 1 := by omega
          by_cases hle : l[k] ≤ l[k - 1]
          · have HN := Lib.hid (rising_no (hi := hi) hlt (fun h => by
              have h1 := h.2.2
              rw [hg, hg'] at h1
              omega))
            clear hg hg' hin
            go_wp2_with (go_at_call 110; refine (l1In_any _ _ _ _).mono ?_; rintro e w' ⟨rfl, rfl⟩; rw [HW.out])
            go_ret
            exact ⟨ret_of (by rw [HN.out]; rfl), rfl⟩
          · have hst := Lib.hid (hs.next (k := k) ⟨by rw [hg]; exact hin.1, by rw [hg]; exact hin.2, .inr (by rw [hg, hg']; omega)⟩)
            clear hg hg' hin
            go_wp2_with (go_at_call 110; refine (l1In_any _ _ _ _).mono ?_; rintro e w' ⟨rfl, rfl⟩; rw [HW.out])
            go_round
            case rel => exact ⟨k + 1, by omega, by go_num, hst.out⟩
            case measure => simp [intOf]; omega
    · have HN := Lib.hid (rising_yes hs (by omega))
      go_wp2
      go_ret
      exact ⟨ret_of (by rw [HN.out]; rfl), rfl⟩

/-- A trip of a party, by the list alone: 1..seats people, strictly rising. -/
noncomputable def isTrip (n : Nat) (s : Int) (l : List Int) : Bool := within l.length 1 s && rising l (n - 1)

/-- The slowest time among the people of a list, as the model finds it. -/
def slowOf (xs l : List Int) : Int := (l.map fun k => xs.getD k.toNat 0).foldl max 0
theorem slowOf_next {xs l : List Int} {k : Nat} (hk : k < l.length) : slowOf xs (l.take (k + 1)) = max (slowOf xs (l.take k)) (xs.getD (l[k]).toNat 0) := by
  rw [slowOf, slowOf, List.take_succ_eq_append_getElem hk, List.map_append, List.foldl_append]
  rfl

end Go.Proofs.YtedkanncdkofaaaDoor

namespace Go.Proofs.YtedkanncdkofaaaDoor
open Go.RowKit

/-- Is person i on the list? -/
def has (l : List Int) (i : Nat) : Bool := l.any (· == (i : Int))
/-- The cells of the crowd of a list. -/
def crowdCells (l : List Int) : Array Value := #[.bool (has l 0), .bool (has l 1), .bool (has l 2), .bool (has l 3), .bool (has l 4), .bool (has l 5), .bool (has l 6), .bool (has l 7)]
theorem crowd_at (l : List Int) {i : Nat} (h : i < 8) : (crowdCells l)[i]? = some (.bool (has l i)) := by
  match i, h with
  | 0, _ => rfl
  | 1, _ => rfl
  | 2, _ => rfl
  | 3, _ => rfl
  | 4, _ => rfl
  | 5, _ => rfl
  | 6, _ => rfl
  | 7, _ => rfl
theorem has_snoc (l : List Int) (x : Int) (i : Nat) : has (l ++ [x]) i = (has l i || x == (i : Int)) := by simp [has]
theorem crowd_set (l : List Int) {x : Int} (h0 : 0 ≤ x) (h8 : x < 8) : (crowdCells l).setIfInBounds x.toNat (.bool true) = crowdCells (l ++ [x]) := by
  have h : x = 0 ∨ x = 1 ∨ x = 2 ∨ x = 3 ∨ x = 4 ∨ x = 5 ∨ x = 6 ∨ x = 7 := by omega
  rcases h with rfl | rfl | rfl | rfl | rfl | rfl | rfl | rfl <;> simp [crowdCells, has_snoc]

/-- The person before place k, or -1 at the start. -/
def lastOf (l : List Int) (k : Nat) : Int := if k = 0 then -1 else l.getD (k - 1) 0
theorem lastOf_zero (l : List Int) : lastOf l 0 = -1 := rfl
theorem lastOf_next (l : List Int) {k : Nat} (hk : k < l.length) : lastOf l (k + 1) = l[k] := by simp [lastOf, hk]
theorem lastOf_ge {l : List Int} {hi : Int} {k : Nat} (h : StepsTo l hi k) : -1 ≤ lastOf l k := by
  by_cases h0 : k = 0
  · simp [lastOf, h0]
  · have := (h (k - 1) (by omega)).1
    rw [lastOf, if_neg h0]
    omega
theorem step_of {l : List Int} {hi : Int} {k : Nat} (h : StepsTo l hi k) (hk : k < l.length) (h1 : lastOf l k < l[k]) (h2 : l[k] ≤ hi) : Step l hi k := by
  have hg := lastOf_ge h
  refine ⟨by rw [getD_at l hk]; omega, by rw [getD_at l hk]; exact h2, ?_⟩
  by_cases h0 : k = 0
  · exact .inl h0
  · right
    rw [lastOf, if_neg h0] at h1
    rw [getD_at l hk]
    exact h1
theorem nostep_last {l : List Int} {hi : Int} {k : Nat} (hk : k < l.length) (h : l[k] ≤ lastOf l k) : ¬ Step l hi k := by
  rintro ⟨h1, -, h3⟩
  rw [getD_at l hk] at h1 h3
  by_cases h0 : k = 0
  · subst h0
    rw [lastOf_zero] at h
    omega
  · rw [lastOf, if_neg h0] at h
    rcases h3 with h3 | h3
    · exact h0 h3
    · omega
theorem nostep_hi {l : List Int} {hi : Int} {k : Nat} (hk : k < l.length) (h : hi < l[k]) : ¬ Step l hi k := by
  rintro ⟨-, h2, -⟩
  rw [getD_at l hk] at h2
  omega
theorem trip_len {n : Nat} {s : Int} {l : List Int} (h : (l.length : Int) < 1 ∨ s < l.length) : isTrip n s l = false := by simp [isTrip, within_no h]
theorem trip_no {n : Nat} {s : Int} {l : List Int} {k : Nat} (hk : k < l.length) (h : ¬ Step l (n - 1) k) : isTrip n s l = false := by simp [isTrip, rising_no hk h]
theorem trip_yes {n : Nat} {s : Int} {l : List Int} (h1 : 1 ≤ (l.length : Int)) (h2 : (l.length : Int) ≤ s) (h : StepsTo l (n - 1) l.length) : isTrip n s l = true := by
  simp [isTrip, within_yes h1 h2, rising_yes h (Nat.le_refl _)]

theorem crowd_cells {w : World} {g : Nat} {ty : TypeId} {l : List Int} (h : Whole w g ty (crowdCells l)) :
    w.cell? ⟨g, 0, none⟩ = some (.bool (has l 0)) ∧ w.cell? ⟨g, 1, none⟩ = some (.bool (has l 1)) ∧ w.cell? ⟨g, 2, none⟩ = some (.bool (has l 2)) ∧ w.cell? ⟨g, 3, none⟩ = some (.bool (has l 3)) ∧
    w.cell? ⟨g, 4, none⟩ = some (.bool (has l 4)) ∧ w.cell? ⟨g, 5, none⟩ = some (.bool (has l 5)) ∧ w.cell? ⟨g, 6, none⟩ = some (.bool (has l 6)) ∧ w.cell? ⟨g, 7, none⟩ = some (.bool (has l 7)) :=
  ⟨(h.cell 0).trans rfl, (h.cell 1).trans rfl, (h.cell 2).trans rfl, (h.cell 3).trans rfl, (h.cell 4).trans rfl, (h.cell 5).trans rfl, (h.cell 6).trans rfl, (h.cell 7).trans rfl⟩
theorem crowd_open {w : World} {g : Nat} {ty : TypeId} {cs : Array Value} (h : Whole w g ty cs) :
    w.frozen? ⟨g, 0, none⟩ = false ∧ w.frozen? ⟨g, 1, none⟩ = false ∧ w.frozen? ⟨g, 2, none⟩ = false ∧ w.frozen? ⟨g, 3, none⟩ = false ∧ w.frozen? ⟨g, 4, none⟩ = false ∧ w.frozen? ⟨g, 5, none⟩ = false ∧ w.frozen? ⟨g, 6, none⟩ = false ∧ w.frozen? ⟨g, 7, none⟩ = false :=
  ⟨h.open_ 0, h.open_ 1, h.open_ 2, h.open_ 3, h.open_ 4, h.open_ 5, h.open_ 6, h.open_ 7⟩
theorem set_crowd {w : World} {g B : Nat} {a : World} {v0 v1 v2 v3 v4 v5 v6 v7 : Value} (h : Below B a w) (hg : B ≤ g) :
    Below B a ((((((((w.setCell ⟨g, 0, none⟩ v0).setCell ⟨g, 1, none⟩ v1).setCell ⟨g, 2, none⟩ v2).setCell ⟨g, 3, none⟩ v3).setCell ⟨g, 4, none⟩ v4).setCell ⟨g, 5, none⟩ v5).setCell ⟨g, 6, none⟩ v6).setCell ⟨g, 7, none⟩ v7) :=
  below_set (below_set (below_set (below_set (below_set (below_set (below_set (below_set h hg) hg) hg) hg) hg) hg) hg) hg

/-- What crowdOf hands back. -/
def CrowdPost (n : Nat) (s : Int) (l : List Int) (w : World) (e : Ending) (w' : World) : Prop :=
  ((isTrip n s l = true ∧ e = .returned (.tuple #[.agg (crowdCells l), .bool true])) ∨ (isTrip n s l = false ∧ e = .returned (.tuple #[.agg (crowdCells []), .bool false]))) ∧ Below w.heap.size w w'

/-- The slowest of the first k people who are on the list, as the program finds it. -/
def slowTo (xs l : List Int) : Nat → Int
  | 0 => 0
  | k + 1 => if has l k = true then max (slowTo xs l k) (xs.getD k 0) else slowTo xs l k
theorem slowTo_yes {xs l : List Int} {k : Nat} (h : has l k = true) : slowTo xs l (k + 1) = max (slowTo xs l k) (xs.getD k 0) := if_pos h
theorem slowTo_no {xs l : List Int} {k : Nat} (h : has l k = false) : slowTo xs l (k + 1) = slowTo xs l k := if_neg (by simp [h])
theorem slowTo_le (xs l : List Int) (k : Nat) (b : Int) : slowTo xs l k ≤ b ↔ 0 ≤ b ∧ ∀ i, i < k → has l i = true → xs.getD i 0 ≤ b := by
  induction k with
  | zero => simp [slowTo]
  | succ k ih =>
    cases h : has l k
    · rw [slowTo_no h, ih]
      refine ⟨fun hh => ⟨hh.1, fun i hi hp => ?_⟩, fun hh => ⟨hh.1, fun i hi => hh.2 i (by omega)⟩⟩
      rcases Nat.lt_succ_iff_lt_or_eq.1 hi with hl | rfl
      · exact hh.2 i hl hp
      · rw [h] at hp; cases hp
    · rw [slowTo_yes h]
      constructor
      · intro hh
        have h1 := ih.1 (show slowTo xs l k ≤ b by omega)
        refine ⟨h1.1, fun i hi hp => ?_⟩
        rcases Nat.lt_succ_iff_lt_or_eq.1 hi with hl | rfl
        · exact h1.2 i hl hp
        · omega
      · intro hh
        have h1 := ih.2 ⟨hh.1, fun i hi => hh.2 i (by omega)⟩
        have h2 := hh.2 k (by omega) h
        omega
theorem slowOf_le (xs l : List Int) (b : Int) : slowOf xs l ≤ b ↔ 0 ≤ b ∧ ∀ x ∈ l, xs.getD x.toNat 0 ≤ b := by
  rw [slowOf, foldl_le]
  simp
theorem mem_steps {l : List Int} {hi x : Int} (h : StepsTo l hi l.length) (hx : x ∈ l) : 0 ≤ x ∧ x ≤ hi := by
  obtain ⟨k, hk, rfl⟩ := List.getElem_of_mem hx
  have hs := h k hk
  exact ⟨by have := hs.1; rw [getD_at l hk] at this; exact this, by have := hs.2.1; rw [getD_at l hk] at this; exact this⟩
theorem has_iff {l : List Int} {i : Nat} : has l i = true ↔ (i : Int) ∈ l := by
  simp only [has, List.any_eq_true, beq_iff_eq]
  exact ⟨fun ⟨x, hx, he⟩ => he ▸ hx, fun h => ⟨_, h, rfl⟩⟩
theorem slow_same {xs l : List Int} {n : Nat} (hs : StepsTo l (n - 1) l.length) : slowTo xs l n = slowOf xs l := by
  apply Int.le_antisymm
  · rw [slowTo_le]
    have h := (slowOf_le xs l (slowOf xs l)).1 (Int.le_refl _)
    exact ⟨h.1, fun i _ hp => by have := h.2 _ (has_iff.1 hp); simpa using this⟩
  · rw [slowOf_le]
    have h := (slowTo_le xs l n (slowTo xs l n)).1 (Int.le_refl _)
    refine ⟨h.1, fun x hx => ?_⟩
    have hm := mem_steps hs hx
    obtain ⟨i, rfl⟩ := Int.eq_ofNat_of_zero_le hm.1
    exact h.2 i (by omega) (has_iff.2 hx)

end Go.Proofs.YtedkanncdkofaaaDoor

namespace Go.Proofs.YtedkanncdkofaaaDoor
open Go.RowKit

/-- Two lists of one reading are the same. -/
theorem eqIntS_yes (A B : Option Addr) (n c d : Nat) (xs : List Int) (w : World) (hA : Holds w A (nums xs)) (hB : Holds w B (nums xs)) (hx : xs.length = n) (hn : n ≤ 9223372036854775807) :
    Calls Tryd.prog 65 #[.slice A n c, .slice B n d] w fun e w' => e = .returned (.bool true) ∧ Below w.heap.size w w' :=
  (eqIntS_any A B n n c d xs xs w hA hB hx hx hn hn).mono fun _ _ ⟨he, k, hw⟩ => ⟨by rw [he, sameInts_yes rfl], by rw [hw]; exact below_draws (Below.refl _ _) k⟩

/-- TripTime's number: 0 where the call fails. -/
noncomputable def tripTime (xs : List Int) (n : Nat) (s : Int) (l : List Int) : Int := if isParty xs s && isTrip n s l then slowOf xs l else 0
theorem tripTime_yes {xs l : List Int} {n : Nat} {s : Int} (h1 : isParty xs s = true) (h2 : isTrip n s l = true) : tripTime xs n s l = slowOf xs l := by simp [tripTime, h1, h2]
theorem tripTime_no1 {xs l : List Int} {n : Nat} {s : Int} (h1 : isParty xs s = false) : tripTime xs n s l = 0 := by simp [tripTime, h1]
theorem tripTime_no2 {xs l : List Int} {n : Nat} {s : Int} (h2 : isTrip n s l = false) : tripTime xs n s l = 0 := by simp [tripTime, h2]

theorem trip_steps {n : Nat} {s : Int} {l : List Int} (h : isTrip n s l = true) : StepsTo l (n - 1) l.length := by
  simp only [isTrip, Bool.and_eq_true] at h
  exact rising_steps h.2

end Go.Proofs.YtedkanncdkofaaaDoor

namespace Go.Proofs.YtedkanncdkofaaaDoor
open Go.RowKit

/-- All people of a list stand where t is. -/
def allAt (bs : List Bool) (t : Bool) (l : List Int) : Bool := l.all fun k => bs.getD k.toNat false == t
theorem allAt_no {bs : List Bool} {t : Bool} {l : List Int} {k : Nat} (hk : k < l.length) (h : bs.getD (l[k]).toNat false ≠ t) : allAt bs t l = false := by
  rw [allAt, List.all_eq_false]
  exact ⟨l[k], List.getElem_mem hk, by simpa using h⟩
theorem allAt_yes {bs : List Bool} {t : Bool} {l : List Int} (h : ∀ j (hj : j < l.length), bs.getD (l[j]).toNat false = t) : allAt bs t l = true := by
  rw [allAt, List.all_eq_true]
  intro x hx
  obtain ⟨j, hj, rfl⟩ := List.getElem_of_mem hx
  simpa using h j hj
/-- Can the people of a list cross? -/
noncomputable def canGo (n : Nat) (s : Int) (bs : List Bool) (t : Bool) (l : List Int) : Bool := isTrip n s l && allAt bs t l
def AtTo (bs : List Bool) (t : Bool) (l : List Int) (k : Nat) : Prop := ∀ j (h : j < l.length), j < k → bs.getD (l[j]).toNat false = t

end Go.Proofs.YtedkanncdkofaaaDoor

namespace Go.Proofs.YtedkanncdkofaaaDoor
open Go.RowKit

/-- Block g alone may have turned. -/
structure Only (g : Nat) (w w' : World) : Prop where
  os : w'.os = w.os
  tape : w'.tape = w.tape
  output : w'.output = w.output
  size : w'.heap.size = w.heap.size
  block : ∀ k, k ≠ g → w'.heap[k]? = w.heap[k]?

theorem Only.below {g B : Nat} {a w w' : World} (h : Only g w w') (hb : Below B a w) (hg : B ≤ g) : Below B a w' :=
  hb.trans ⟨h.os, h.tape, h.output, by rw [h.size]; exact Nat.le_refl _, fun k hk => h.block k (by omega)⟩
theorem Only.whole {g k : Nat} {w w' : World} {t : TypeId} {cs : Array Value} (h : Only g w w') (hw : Whole w k t cs) (hne : k ≠ g) : Whole w' k t cs := (h.block k hne).trans hw

section
variable {P : Program}
theorem only_setRow (w : World) (g : Nat) (cs : Array Value) : Only g w (w.setRow g cs) :=
  ⟨rfl, rfl, rfl, size_setRow w g cs, fun k hk => by simp [World.setRow, Array.getElem?_modify, Ne.symm hk]⟩
theorem whole_setRow {w : World} {g : Nat} {t : TypeId} {old : Array Value} (cs : Array Value) (h : Whole w g t old) : Whole (w.setRow g cs) g t cs := by
  unfold Whole at h ⊢
  simp [World.setRow, Array.getElem?_modify, h]

theorem wpList_store_whole {ops : Array Oper} {rest : List Oper} {o : Oper} {a : Act} {w : World} {Q : Exit → Act → World → Prop} (hgd : o.guard = none) (ty : TypeId) (x y : Operand) (ho : o.op = .store ty x y)
    (g : Nat) (cells : Array Value) (hx : a.eval x = .pointer (some ⟨g, 0, none⟩)) (hy : a.eval y = .agg cells)
    (t : TypeId) (old : Array Value) (hg : Whole w g t old) (hi : (P.info? ty).map (·.size) = some cells.size)
    (hold : old.size = cells.size) (h1 : cells.all (·.oneCell') = true)
    (h : ∀ w', Whole w' g t cells → Only g w w' → wpList P ops Q rest (a.put o.dst undef) w') : wpList P ops Q (o :: rest) a w :=
  wpList_store_row hgd ty x y ho g cells hx hy t old hg hi hold h1 (h _ (whole_setRow cells hg) (only_setRow w g cells))
end
end Go.Proofs.YtedkanncdkofaaaDoor

namespace Go.Proofs.YtedkanncdkofaaaDoor
open Go.RowKit

theorem and_of {a b x y : Bool} (h : a = x) (k : b = y) : (a && b) = (x && y) := by rw [h, k]

/-- What partyPlace hands back. -/
def PlacePost (n : Nat) (xs : List Int) (s : Int) (bs : List Bool) (t : Bool) (w : World) (e : Ending) (w' : World) : Prop :=
  (((isParty xs s && isState n bs t) = true ∧ e = .returned (.tuple #[.agg (placeCells bs t), .bool true])) ∨ ((isParty xs s && isState n bs t) = false ∧ e = .returned (.tuple #[.agg (placeCells [] false), .bool false]))) ∧ Below w.heap.size w w'

/-- The first k people: who is on the list stands where t is. -/
def HoldTo (bs : List Bool) (t : Bool) (l : List Int) (k : Nat) : Prop := ∀ i, i < k → has l i = true → bs.getD i false = t
theorem HoldTo.next {bs : List Bool} {t : Bool} {l : List Int} {k : Nat} (h : HoldTo bs t l k) (hk : has l k = true → bs.getD k false = t) : HoldTo bs t l (k + 1) := fun i hi =>
  (Nat.lt_succ_iff_lt_or_eq.1 hi).elim (h i) (fun e => e ▸ hk)
theorem place_at (bs : List Bool) (t : Bool) {i : Nat} (h : i < 8) : (placeCells bs t)[i]? = some (.bool (bs.getD i false)) := by
  match i, h with
  | 0, _ => rfl
  | 1, _ => rfl
  | 2, _ => rfl
  | 3, _ => rfl
  | 4, _ => rfl
  | 5, _ => rfl
  | 6, _ => rfl
  | 7, _ => rfl
theorem at_of_hold {bs : List Bool} {t : Bool} {l : List Int} {n : Nat} (hs : StepsTo l (n - 1) l.length) (hn : n ≤ 8) (h : HoldTo bs t l 8) : allAt bs t l = true :=
  allAt_yes fun j hj => by
    have hm := mem_steps hs (List.getElem_mem hj)
    exact h (l[j]).toNat (by omega) (has_iff.2 (by rw [Int.toNat_of_nonneg hm.1]; exact List.getElem_mem hj))
theorem at_not {bs : List Bool} {t : Bool} {l : List Int} {i : Nat} (h : has l i = true) (hne : bs.getD i false ≠ t) : allAt bs t l = false := by
  rw [allAt, List.all_eq_false]
  exact ⟨(i : Int), has_iff.1 h, by simpa using hne⟩

theorem can_of {n : Nat} {s : Int} {bs : List Bool} {t : Bool} {l : List Int} {x y : Bool} (h : isTrip n s l = x) (k : allAt bs t l = y) : canGo n s bs t l = (x && y) := and_of h k
theorem crowd_one (l : List Int) : (crowdCells l).all (·.oneCell') = true := by simp [crowdCells, Value.oneCell']

/-- What tripOf hands back. -/
def TripPost (n : Nat) (s : Int) (bs : List Bool) (t : Bool) (l : List Int) (w : World) (e : Ending) (w' : World) : Prop :=
  ((canGo n s bs t l = true ∧ e = .returned (.tuple #[.agg (crowdCells l), .bool true])) ∨ (canGo n s bs t l = false ∧ e = .returned (.tuple #[.agg (crowdCells []), .bool false]))) ∧ Below w.heap.size w w'

end Go.Proofs.YtedkanncdkofaaaDoor

namespace Go.Proofs.YtedkanncdkofaaaDoor
open Go.RowKit

theorem Whole.cells1 {w : World} {g : Nat} {t : TypeId} {a : Value} (h : Whole w g t #[a]) : w.cell? ⟨g, 0, none⟩ = some a := h.cell 0
theorem Whole.cells2 {w : World} {g : Nat} {t : TypeId} {a b : Value} (h : Whole w g t #[a, b]) : w.cell? ⟨g, 0, none⟩ = some a ∧ w.cell? ⟨g, 1, none⟩ = some b := ⟨h.cell 0, h.cell 1⟩
theorem Whole.cells3 {w : World} {g : Nat} {t : TypeId} {a b c : Value} (h : Whole w g t #[a, b, c]) : w.cell? ⟨g, 0, none⟩ = some a ∧ w.cell? ⟨g, 1, none⟩ = some b ∧ w.cell? ⟨g, 2, none⟩ = some c := ⟨h.cell 0, h.cell 1, h.cell 2⟩
end Go.Proofs.YtedkanncdkofaaaDoor

namespace Go.Proofs.YtedkanncdkofaaaDoor
open Go.RowKit

/-- A clue: its kind, A and B. -/
abbrev Cl := Int × Int × Int
def clC (c : Cl) : Array Value := #[.int .i64 c.1, .int .i64 c.2.1, .int .i64 c.2.2]
def clsC (cs : List Cl) : List Value := cs.flatMap fun c => (clC c).toList
theorem clsC_app (a b : List Cl) : clsC (a ++ b) = clsC a ++ clsC b := List.flatMap_append
theorem clsC_len (cs : List Cl) : (clsC cs).length = cs.length * 3 := by
  induction cs with
  | nil => rfl
  | cons c cs ih =>
    simp only [clsC, List.flatMap_cons, List.length_append] at ih ⊢
    rw [ih, List.length_cons]
    show 3 + _ = _
    omega
theorem clsC_one (cs : List Cl) : ∀ u ∈ clsC cs, u.oneCell' = true := by
  intro u hu
  simp only [clsC, List.mem_flatMap, clC, List.mem_cons, List.not_mem_nil, or_false] at hu
  obtain ⟨t, -, rfl | rfl | rfl⟩ := hu <;> rfl
theorem clsC_at {cs : List Cl} {k j : Nat} (hk : k < cs.length) (hj : j < 3) : (clsC cs)[k * 3 + j]? = (clC cs[k])[j]? := by
  induction cs generalizing k with
  | nil => simp at hk
  | cons c cs ih =>
    have hc : clsC (c :: cs) = (clC c).toList ++ clsC cs := rfl
    rw [hc]
    cases k with
    | zero =>
      rw [List.getElem?_append_left (by show 0 * 3 + j < 3; omega)]
      simp
    | succ k =>
      rw [List.getElem?_append_right (by show 3 ≤ _; omega)]
      have e : (k + 1) * 3 + j - (clC c).toList.length = k * 3 + j := by show (k + 1) * 3 + j - 3 = _; omega
      rw [e, ih (by simpa using hk)]
      simp
/-- The cells of the k-th clue of a list that lies from o on. -/
theorem cl_row {w : World} {b o : Nat} {cs : List Cl} {k : Nat} (h : ∀ j u, (clsC cs)[j]? = some u → w.cell? ⟨b, o + j, none⟩ = some u) (hk : k < cs.length) :
    w.cell? ⟨b, o + k * 3, none⟩ = some (.int .i64 cs[k].1) ∧ w.cell? ⟨b, o + k * 3 + 1, none⟩ = some (.int .i64 cs[k].2.1) ∧ w.cell? ⟨b, o + k * 3 + 2, none⟩ = some (.int .i64 cs[k].2.2) :=
  ⟨h (k * 3 + 0) _ (clsC_at hk (by omega)), h (k * 3 + 1) _ (clsC_at hk (by omega)), h (k * 3 + 2) _ (clsC_at hk (by omega))⟩
/-- Where a list of clues that is not empty lies. -/
theorem cls_look {w : World} {A : Option Addr} {cs : List Cl} (h : Holds w A (clsC cs)) {k : Nat} (hk : k < cs.length) :
    ∃ b o, A = some ⟨b, o, none⟩ ∧ b < w.heap.size ∧ w.cell? ⟨b, o + k * 3, none⟩ = some (.int .i64 cs[k].1) ∧ w.cell? ⟨b, o + k * 3 + 1, none⟩ = some (.int .i64 cs[k].2.1) ∧ w.cell? ⟨b, o + k * 3 + 2, none⟩ = some (.int .i64 cs[k].2.2) := by
  rcases h with h | ⟨b, o, hA, hb, hc⟩
  · have := clsC_len cs; rw [h] at this; simp at this; omega
  · exact ⟨b, o, hA, hb, cl_row hc hk⟩

/-- Is it a clue of times of p people? -/
def clOk (p : Int) (c : Cl) : Bool :=
  if c.1 = 0 then within c.2.1 0 (p - 1) && within c.2.2 1 6
  else if c.1 = 4 then within c.2.1 0 (p - 1) && within c.2.2 0 5
  else if c.1 = 1 then within c.2.1 1 24 && within c.2.2 0 0
  else if c.1 = 2 then within c.2.1 1 100 && within c.2.2 0 0
  else if c.1 = 3 then within c.2.1 1 100 && within c.2.2 0 0
  else if c.1 = 5 then within c.2.1 0 p && within c.2.2 0 0
  else false
/-- Is it a puzzle? -/
def pzOk (p : Int) (cs : List Cl) : Bool := within p 1 4 && (decide (cs.length ≤ 6) && cs.all (clOk p))
theorem clOk0 {p a b : Int} : clOk p (0, a, b) = (within a 0 (p - 1) && within b 1 6) := rfl
theorem clOk4 {p a b : Int} : clOk p (4, a, b) = (within a 0 (p - 1) && within b 0 5) := rfl
theorem clOk1 {p a b : Int} : clOk p (1, a, b) = (within a 1 24 && within b 0 0) := rfl
theorem clOk2 {p a b : Int} : clOk p (2, a, b) = (within a 1 100 && within b 0 0) := rfl
theorem clOk3 {p a b : Int} : clOk p (3, a, b) = (within a 1 100 && within b 0 0) := rfl
theorem clOk5 {p a b : Int} : clOk p (5, a, b) = (within a 0 p && within b 0 0) := rfl
theorem clOk_no {p k a b : Int} (h0 : k ≠ 0) (h1 : k ≠ 1) (h2 : k ≠ 2) (h3 : k ≠ 3) (h4 : k ≠ 4) (h5 : k ≠ 5) : clOk p (k, a, b) = false := by
  simp [clOk, h0, h1, h2, h3, h4, h5]
theorem clOk_b {p k a b : Int} (h0 : k ≠ 0) (h4 : k ≠ 4) (h : b ≠ 0) : clOk p (k, a, b) = false := by
  have hb : within b 0 0 = false := within_no (by omega)
  simp [clOk, h0, h4, hb]
theorem within00 {b : Int} : within b 0 0 = decide (b = 0) := by
  simp only [within]; congr 1; exact propext ⟨fun h => by omega, fun h => by omega⟩
theorem pzOk_people {p : Int} {cs : List Cl} (h : within p 1 4 = false) : pzOk p cs = false := by simp [pzOk, h]
theorem pzOk_long {p : Int} {cs : List Cl} (h : 6 < cs.length) : pzOk p cs = false := by
  have : ¬ cs.length ≤ 6 := by omega
  simp [pzOk, this]
theorem pzOk_all {p : Int} {cs : List Cl} (hp : within p 1 4 = true) (h : cs.length ≤ 6) : pzOk p cs = cs.all (clOk p) := by simp [pzOk, hp, h]
theorem all_no {p : Int} {cs : List Cl} {k : Nat} (hk : k < cs.length) (h : clOk p cs[k] = false) : cs.all (clOk p) = false := List.all_eq_false.2 ⟨_, List.getElem_mem hk, by simp [h]⟩
theorem all_yes {p : Int} {cs : List Cl} (h : ∀ k (hk : k < cs.length), clOk p cs[k] = true) : cs.all (clOk p) = true := by
  rw [List.all_eq_true]
  intro x hx
  obtain ⟨k, hk, rfl⟩ := List.getElem_of_mem hx
  exact h k hk
end Go.Proofs.YtedkanncdkofaaaDoor

namespace Go.Proofs.YtedkanncdkofaaaDoor
open Go.RowKit

/-- The number at k is no less than the one ahead of it. -/
def stepAt (xs : List Int) (k : Nat) : Bool := decide (xs.getD k 0 ≤ xs.getD (k + 1) 0)
/-- Numbers that do not fall. -/
def sortI (xs : List Int) : Bool := (List.range (xs.length - 1)).all (stepAt xs)
/-- Hidden times. -/
def hidI (xs : List Int) : Bool := within xs.length 1 4 && (allIn xs 1 6 && sortI xs)
theorem sortI_no {xs : List Int} {k : Nat} (hk : k + 1 < xs.length) (h : xs[k + 1] < xs[k]) : sortI xs = false := by
  cases he : sortI xs
  · rfl
  · rw [sortI, List.all_eq_true] at he
    have := he k (List.mem_range.2 (by omega))
    simp only [stepAt, List.getD_eq_getElem?_getD, List.getElem?_eq_getElem hk, List.getElem?_eq_getElem (show k < xs.length by omega), Option.getD_some, decide_eq_true_eq] at this
    omega
theorem sortI_yes {xs : List Int} (h : ∀ k, k + 1 < xs.length → stepAt xs k = true) : sortI xs = true := by
  rw [sortI, List.all_eq_true]; exact fun k hk => h k (by have := List.mem_range.1 hk; omega)
theorem stepAt_of {xs : List Int} {k : Nat} (hk : k + 1 < xs.length) (h : ¬ xs[k + 1] < xs[k]) : stepAt xs k = true := by
  simp only [stepAt, List.getD_eq_getElem?_getD, List.getElem?_eq_getElem hk, List.getElem?_eq_getElem (show k < xs.length by omega), Option.getD_some, decide_eq_true_eq]
  omega
theorem sortI_at {xs : List Int} (h : sortI xs = true) {k : Nat} (hk : k + 1 < xs.length) : xs[k] ≤ xs[k + 1] := by
  rw [sortI, List.all_eq_true] at h
  have := h k (List.mem_range.2 (by omega))
  simpa only [stepAt, List.getD_eq_getElem?_getD, List.getElem?_eq_getElem hk, List.getElem?_eq_getElem (show k < xs.length by omega), Option.getD_some, decide_eq_true_eq] using this
theorem sortI_up {xs : List Int} (h : sortI xs = true) : ∀ (j k : Nat) (hjk : j ≤ k) (hk : k < xs.length), xs[j] ≤ xs[k]
  | j, 0, hjk, hk => by obtain rfl : j = 0 := by omega
                        exact Int.le_refl _
  | j, k + 1, hjk, hk => by
    rcases Nat.lt_or_ge k j with h1 | h1
    · obtain rfl : j = k + 1 := by omega
      exact Int.le_refl _
    · exact Int.le_trans (sortI_up h j k h1 (by omega)) (sortI_at h hk)
theorem hidI_len {xs : List Int} (h : xs.length < 1 ∨ 4 < xs.length) : hidI xs = false := by
  rw [hidI, within_no (by omega)]; rfl
theorem hidI_all {xs : List Int} (h : allIn xs 1 6 = false) : hidI xs = false := by simp [hidI, h]
theorem hidI_sort {xs : List Int} (h : sortI xs = false) : hidI xs = false := by simp [hidI, h]
theorem hidI_yes {xs : List Int} (h1 : 1 ≤ xs.length) (h4 : xs.length ≤ 4) (h : allIn xs 1 6 = true) (hs : sortI xs = true) : hidI xs = true := by
  rw [hidI, within_yes (by omega) (by omega), h, hs]; rfl
theorem allIn_first {xs : List Int} {lo hi : Int} (h0 : 0 < xs.length) (h : xs[0] < lo) : allIn xs lo hi = false := allIn_no h0 (within_no (.inl h))
theorem allIn_last {xs : List Int} {lo hi : Int} {k : Nat} (hk : k < xs.length) (h : hi < xs[k]) : allIn xs lo hi = false := allIn_no hk (within_no (.inr h))
theorem allIn_ends {xs : List Int} {lo hi : Int} {m : Nat} (hm : m + 1 = xs.length) (hs : sortI xs = true) (h : lo ≤ xs[0]) (h' : xs[m] ≤ hi) : allIn xs lo hi = true :=
  allIn_yes fun k hk => within_yes (Int.le_trans h (sortI_up hs 0 k (by omega) hk)) (Int.le_trans (sortI_up hs k m (by omega) (by omega)) h')
theorem hidI_parts {xs : List Int} (h : hidI xs = true) : 1 ≤ xs.length ∧ xs.length ≤ 4 ∧ (∀ y ∈ xs, 1 ≤ y ∧ y ≤ 6) ∧ sortI xs = true := by
  simp only [hidI, Bool.and_eq_true, within_iff] at h
  exact ⟨by omega, by omega, (allIn_iff _ _ _).1 h.2.1, h.2.2⟩

set_option maxHeartbeats 400000 in
theorem isNaNh_any (x : Int) (w : World) : Calls Tryd.prog 163 #[.int .i64 x] w fun e w' => e = .returned (.bool false) ∧ w = w' := by
  go_enter Tryd.func163, Tryd.ntmps163
  go_wp2
  go_ret
  exact ⟨by simp, rfl⟩
set_option maxHeartbeats 400000 in
theorem canHide_any (p : Int) (w : World) :
    Calls Tryd.prog 132 #[.int .i64 p] w fun e w' => e = .returned (.bool (within p 1 4)) ∧ w = w' := by
  by_cases h1 : 1 ≤ p
  · by_cases h2 : p ≤ 4
    · have HW := Lib.hid (within_yes h1 h2)
      go_enter Tryd.func132, Tryd.ntmps132
      go_wp2
      go_ret
      exact ⟨ret_of (by rw [HW.out]; rfl), rfl⟩
    · have HW := Lib.hid (within_no (lo := 1) (.inr (Int.not_le.1 h2)))
      go_enter Tryd.func132, Tryd.ntmps132
      go_wp2
      go_ret
      exact ⟨ret_of (by rw [HW.out]; rfl), rfl⟩
  · have HW := Lib.hid (within_no (hi := 4) (.inl (Int.not_le.1 h1)))
    go_enter Tryd.func132, Tryd.ntmps132
    go_wp2
    go_ret
    exact ⟨ret_of (by rw [HW.out]; rfl), rfl⟩
theorem pzPeople_any (p : Int) (w : World) :
    Calls Tryd.prog 129 #[.int .i64 p] w fun e w' => e = .returned (.bool (within p 1 4)) ∧ w = w' := by
  go_enter Tryd.func129, Tryd.ntmps129
  go_wp2_with fail
  refine (l1In_any _ _ _ _).mono ?_
  rintro e w' ⟨rfl, rfl⟩
  go_wp2
  go_ret
  exact ⟨rfl, rfl⟩

end Go.Proofs.YtedkanncdkofaaaDoor

namespace Go.Proofs.YtedkanncdkofaaaDoor
open Go.RowKit

/-- What A and B of a clue of a kind may be. -/
def spanOf (p k : Int) : Option ((Int × Int) × (Int × Int)) :=
  if k = 0 then some ((0, p - 1), (1, 6)) else if k = 1 then some ((1, 24), (0, 0)) else if k = 2 ∨ k = 3 then some ((1, 100), (0, 0))
  else if k = 4 then some ((0, p - 1), (0, 5)) else if k = 5 then some ((0, p), (0, 0)) else none
def spC (s : Int × Int) : Array Value := #[.int .i64 s.1, .int .i64 s.2]
theorem clOk_span {p k a b : Int} {x y : Int × Int} (h : spanOf p k = some (x, y)) : clOk p (k, a, b) = (within a x.1 x.2 && within b y.1 y.2) := by
  unfold spanOf at h
  split at h
  · next e => subst e; cases h; exact clOk0
  split at h
  · next e => subst e; cases h; exact clOk1
  split at h
  · next e => rcases e with rfl | rfl <;> cases h <;> rfl
  split at h
  · next e => subst e; cases h; exact clOk4
  split at h
  · next e => subst e; cases h; exact clOk5
  · cases h
theorem clOk_none {p k a b : Int} (h : spanOf p k = none) : clOk p (k, a, b) = false := by
  unfold spanOf at h
  split at h
  · cases h
  split at h
  · cases h
  split at h
  · cases h
  split at h
  · cases h
  split at h
  · cases h
  next h0 h1 h23 h4 h5 => exact clOk_no h0 h1 (fun e => h23 (.inl e)) (fun e => h23 (.inr e)) h4 h5

theorem below_five (w w' : World) (a b c d e : Obj) (h : w' = ((((w.alloc a).alloc b).alloc c).alloc d).alloc e) : Below w.heap.size w w' := by
  subst h
  exact (below4 w a b c d).alloc (by simp; omega) e

/-- The value that a clue that is none is raised as. -/
def raisedCl (c : Cl) : List PanicEntry := [{ v := .iface 121 (.agg (clC c)), recovered := false }]

set_option maxHeartbeats 1600000 in
theorem spansOf_any (p k a b : Int) (w : World) (hp : 1 ≤ p) (hp4 : p ≤ 4) (x y : Int × Int) (h : spanOf p k = some (x, y)) :
    Calls Tryd.prog 167 #[.int .i64 p, .agg #[.int .i64 k, .int .i64 a, .int .i64 b]] w fun e w' => e = .returned (.tuple #[.agg #[.int .i64 x.1, .int .i64 x.2], .agg #[.int .i64 y.1, .int .i64 y.2]]) ∧ Below w.heap.size w w' := by
  have hpw : IntKind.i64.wrap (p - 1) = p - 1 := IntWalk.i64_in _ (by omega)
  unfold spanOf at h
  split at h
  · next e =>
    subst e; cases h
    go_enter Tryd.func167, Tryd.ntmps167
    go_wp2
    exact bodyPost_ret (v := .tuple #[.agg #[.int .i64 0, .int .i64 (p - 1)], .agg #[.int .i64 1, .int .i64 6]]) (by simp [results, Tryd.results167, go_sem]) rfl ⟨rfl, below_five w _ _ _ _ _ _ rfl⟩
  split at h
  · next e =>
    subst e; cases h
    go_enter Tryd.func167, Tryd.ntmps167
    go_wp2
    go_region
    go_wp2
    exact bodyPost_ret (v := .tuple #[.agg #[.int .i64 1, .int .i64 24], .agg #[.int .i64 0, .int .i64 0]]) (by simp [results, Tryd.results167, go_sem]) rfl ⟨rfl, (below_five w _ _ _ _ _ _ rfl).drew⟩
  split at h
  · next e =>
    rcases e with rfl | rfl
    all_goals
      cases h
      go_enter Tryd.func167, Tryd.ntmps167
      go_wp2
      go_region
      go_wp2
      exact bodyPost_ret (v := .tuple #[.agg #[.int .i64 1, .int .i64 100], .agg #[.int .i64 0, .int .i64 0]]) (by simp [results, Tryd.results167, go_sem]) rfl ⟨rfl, (below_five w _ _ _ _ _ _ rfl).drew⟩
  split at h
  · next e =>
    subst e; cases h
    go_enter Tryd.func167, Tryd.ntmps167
    go_wp2
    exact bodyPost_ret (v := .tuple #[.agg #[.int .i64 0, .int .i64 (p - 1)], .agg #[.int .i64 0, .int .i64 5]]) (by simp [results, Tryd.results167, go_sem]) rfl ⟨rfl, below_five w _ _ _ _ _ _ rfl⟩
  split at h
  · next e =>
    subst e; cases h
    go_enter Tryd.func167, Tryd.ntmps167
    go_wp2
    go_region
    go_wp2
    exact bodyPost_ret (v := .tuple #[.agg #[.int .i64 0, .int .i64 p], .agg #[.int .i64 0, .int .i64 0]]) (by simp [results, Tryd.results167, go_sem]) rfl ⟨rfl, (below_five w _ _ _ _ _ _ rfl).drew⟩
  · cases h

set_option maxHeartbeats 800000 in
theorem spansOf_none (p k a b : Int) (w : World) (hp : 1 ≤ p) (hp4 : p ≤ 4) (h : spanOf p k = none) :
    Calls Tryd.prog 167 #[.int .i64 p, .agg #[.int .i64 k, .int .i64 a, .int .i64 b]] w fun e w' => e = .panicked [{ v := .iface 121 (.agg #[.int .i64 k, .int .i64 a, .int .i64 b]), recovered := false }] ∧ Below w.heap.size w w' := by
  have hpw : IntKind.i64.wrap (p - 1) = p - 1 := IntWalk.i64_in _ (by omega)
  have h0 : k ≠ 0 := fun e => by subst e; cases h
  have h1 : k ≠ 1 := fun e => by subst e; cases h
  have h2 : k ≠ 2 := fun e => by subst e; cases h
  have h3 : k ≠ 3 := fun e => by subst e; cases h
  have h4 : k ≠ 4 := fun e => by subst e; cases h
  have h5 : k ≠ 5 := fun e => by subst e; cases h
  clear h
  go_enter Tryd.func167, Tryd.ntmps167
  go_wp2
  exact ⟨rfl, rfl, below_five w _ _ _ _ _ _ rfl⟩

set_option maxHeartbeats 400000 in
theorem spanHolds_any (x : Int × Int) (n : Int) (w : World) :
    Calls Tryd.prog 168 #[.agg #[.int .i64 x.1, .int .i64 x.2], .int .i64 n] w fun e w' => e = .returned (.bool (within n x.1 x.2)) ∧ Below w.heap.size w w' := by
  obtain ⟨lo, hi⟩ := x
  dsimp only
  by_cases h1 : lo ≤ n
  · by_cases h2 : n ≤ hi
    · have HW := Lib.hid (within_yes h1 h2)
      go_enter Tryd.func168, Tryd.ntmps168
      go_wp2
      go_ret
      exact ⟨ret_of (by rw [HW.out]; rfl), below1 w _⟩
    · have HW := Lib.hid (within_no (lo := lo) (.inr (Int.not_le.1 h2)))
      go_enter Tryd.func168, Tryd.ntmps168
      go_wp2
      go_ret
      exact ⟨ret_of (by rw [HW.out]; rfl), below1 w _⟩
  · have HW := Lib.hid (within_no (hi := hi) (.inl (Int.not_le.1 h1)))
    go_enter Tryd.func168, Tryd.ntmps168
    go_wp2
    go_ret
    exact ⟨ret_of (by rw [HW.out]; rfl), below1 w _⟩

end Go.Proofs.YtedkanncdkofaaaDoor

namespace Go.Proofs.YtedkanncdkofaaaDoor
open Go.RowKit

set_option maxHeartbeats 800000 in
theorem checkClue_yes (p k a b : Int) (w : World) (hp : 1 ≤ p) (hp4 : p ≤ 4) (h : clOk p (k, a, b) = true) :
    Calls Tryd.prog 147 #[.int .i64 p, .agg #[.int .i64 k, .int .i64 a, .int .i64 b]] w fun e w' => e = .returned (.tuple #[]) ∧ Below w.heap.size w w' := by
  cases hs : spanOf p k with
  | none => rw [clOk_none hs] at h; cases h
  | some xy =>
    obtain ⟨⟨x1, x2⟩, ⟨y1, y2⟩⟩ := xy
    have hw := clOk_span (a := a) (b := b) hs
    rw [h] at hw
    simp only [Eq.comm (a := true), Bool.and_eq_true] at hw
    have HA := Lib.hid hw.1
    have HB := Lib.hid hw.2
    have HS := Lib.hid hs
    have h0 := Whole.fresh w 121 #[.int .i64 k, .int .i64 a, .int .i64 b]
    have hbl := below1 w (.cells #[.int .i64 k, .int .i64 a, .int .i64 b] 121)
    clear hw hs h
    go_enter Tryd.func147, Tryd.ntmps147
    go_wp2_with fail
    refine (spansOf_any p k a b _ hp hp4 _ _ HS.out).mono ?_
    rintro e w1 ⟨rfl, hb1⟩
    have hw1 := h0.below hb1
    obtain ⟨c0, c1, c2⟩ := hw1.cells3
    have hlt := hw1.lt
    have hb2 := below_then hbl hb1 hbl.size
    have hc0 := (hw1.alloc (.cells #[.int .i64 x1, .int .i64 x2] 181)).alloc (.cells #[.int .i64 y1, .int .i64 y2] 181)
    have hy0 := Whole.fresh (w1.alloc (.cells #[.int .i64 x1, .int .i64 x2] 181)) 181 #[.int .i64 y1, .int .i64 y2]
    rw [World.size_alloc] at hy0
    have hb3 := (hb2.alloc hb2.size (.cells #[.int .i64 x1, .int .i64 x2] 181)).alloc (by simp; have := hb2.size; omega) (.cells #[.int .i64 y1, .int .i64 y2] 181)
    have HB2 := Lib.hid hb3
    have HC0 := Lib.hid hc0
    have HY0 := Lib.hid hy0
    clear hb1 hbl h0 hw1 hb2 hb3 hc0 hy0
    go_wp2_with fail
    refine (spanHolds_any (x1, x2) a _).mono ?_
    rintro e w2 ⟨rfl, hbq⟩
    rw [HA.out]
    clear c0 c1 c2 hlt
    have hc2 := HC0.out.below hbq
    have hlt := hc2.lt
    obtain ⟨c0, c1, c2⟩ := hc2.cells3
    obtain ⟨yc0, yc1, -, -⟩ := (HY0.out.below hbq).two
    have hb3 := below_then HB2.out hbq HB2.out.size
    have HB3 := Lib.hid hb3
    have HC2 := Lib.hid hc2
    clear hbq hb3 hc2
    go_wp2_with fail
    refine (spanHolds_any (y1, y2) b _).mono ?_
    rintro e w3 ⟨rfl, hbq⟩
    rw [HB.out]
    clear c0 c1 c2 hlt
    have hc3 := HC2.out.below hbq
    have hlt := hc3.lt
    obtain ⟨c0, c1, c2⟩ := hc3.cells3
    have hb4 := below_then HB3.out hbq HB3.out.size
    have HB4 := Lib.hid hb4
    clear hbq hb4 hc3
    go_wp2
    go_end0
    exact ⟨rfl, HB4.out⟩

set_option maxHeartbeats 1600000 in
theorem checkClue_no (p k a b : Int) (w : World) (hp : 1 ≤ p) (hp4 : p ≤ 4) (h : clOk p (k, a, b) = false) :
    Calls Tryd.prog 147 #[.int .i64 p, .agg #[.int .i64 k, .int .i64 a, .int .i64 b]] w fun e w' => e = .panicked [{ v := .iface 121 (.agg #[.int .i64 k, .int .i64 a, .int .i64 b]), recovered := false }] ∧ Below w.heap.size w w' := by
  have h0 := Whole.fresh w 121 #[.int .i64 k, .int .i64 a, .int .i64 b]
  have hbl := below1 w (.cells #[.int .i64 k, .int .i64 a, .int .i64 b] 121)
  cases hs : spanOf p k with
  | none =>
    have HS := Lib.hid hs
    clear hs h
    go_enter Tryd.func147, Tryd.ntmps147
    go_wp2_with fail
    refine (spansOf_none p k a b _ hp hp4 HS.out).mono ?_
    rintro e w1 ⟨rfl, hb1⟩
    have hb2 := below_then hbl hb1 hbl.size
    go_wp2
    exact ⟨rfl, rfl, hb2⟩
  | some xy =>
    obtain ⟨⟨x1, x2⟩, ⟨y1, y2⟩⟩ := xy
    have hw := clOk_span (a := a) (b := b) hs
    rw [h] at hw
    have HS := Lib.hid hs
    cases ha : within a x1 x2
    · have HA := Lib.hid ha
      clear hw hs h ha
      go_enter Tryd.func147, Tryd.ntmps147
      go_wp2_with fail
      refine (spansOf_any p k a b _ hp hp4 _ _ HS.out).mono ?_
      rintro e w1 ⟨rfl, hb1⟩
      have hw1 := h0.below hb1
      obtain ⟨c0, c1, c2⟩ := hw1.cells3
      have hlt := hw1.lt
      have hb2 := below_then hbl hb1 hbl.size
      have hc0 := (hw1.alloc (.cells #[.int .i64 x1, .int .i64 x2] 181)).alloc (.cells #[.int .i64 y1, .int .i64 y2] 181)
      have hy0 := Whole.fresh (w1.alloc (.cells #[.int .i64 x1, .int .i64 x2] 181)) 181 #[.int .i64 y1, .int .i64 y2]
      rw [World.size_alloc] at hy0
      have hb3 := (hb2.alloc hb2.size (.cells #[.int .i64 x1, .int .i64 x2] 181)).alloc (by simp; have := hb2.size; omega) (.cells #[.int .i64 y1, .int .i64 y2] 181)
      have HB2 := Lib.hid hb3
      have HC0 := Lib.hid hc0
      have HY0 := Lib.hid hy0
      clear hb1 hbl h0 hw1 hb2 hb3 hc0 hy0
      go_wp2_with fail
      refine (spanHolds_any (x1, x2) a _).mono ?_
      rintro e w2 ⟨rfl, hbq⟩
      rw [HA.out]
      clear c0 c1 c2 hlt
      have hc2 := HC0.out.below hbq
      have hlt := hc2.lt
      obtain ⟨c0, c1, c2⟩ := hc2.cells3
      obtain ⟨yc0, yc1, -, -⟩ := (HY0.out.below hbq).two
      have hb3 := below_then HB2.out hbq HB2.out.size
      have HB3 := Lib.hid hb3
      have HC2 := Lib.hid hc2
      clear hbq hb3 hc2
      go_wp2
      exact ⟨rfl, rfl, HB3.out⟩
    · rw [show within a ((x1, x2) : Int × Int).1 ((x1, x2) : Int × Int).2 = true from ha, Bool.true_and] at hw
      have HA := Lib.hid ha
      have HB := Lib.hid hw.symm
      clear hw hs h ha
      go_enter Tryd.func147, Tryd.ntmps147
      go_wp2_with fail
      refine (spansOf_any p k a b _ hp hp4 _ _ HS.out).mono ?_
      rintro e w1 ⟨rfl, hb1⟩
      have hw1 := h0.below hb1
      obtain ⟨c0, c1, c2⟩ := hw1.cells3
      have hlt := hw1.lt
      have hb2 := below_then hbl hb1 hbl.size
      have hc0 := (hw1.alloc (.cells #[.int .i64 x1, .int .i64 x2] 181)).alloc (.cells #[.int .i64 y1, .int .i64 y2] 181)
      have hy0 := Whole.fresh (w1.alloc (.cells #[.int .i64 x1, .int .i64 x2] 181)) 181 #[.int .i64 y1, .int .i64 y2]
      rw [World.size_alloc] at hy0
      have hb3 := (hb2.alloc hb2.size (.cells #[.int .i64 x1, .int .i64 x2] 181)).alloc (by simp; have := hb2.size; omega) (.cells #[.int .i64 y1, .int .i64 y2] 181)
      have HB2 := Lib.hid hb3
      have HC0 := Lib.hid hc0
      have HY0 := Lib.hid hy0
      clear hb1 hbl h0 hw1 hb2 hb3 hc0 hy0
      go_wp2_with fail
      refine (spanHolds_any (x1, x2) a _).mono ?_
      rintro e w2 ⟨rfl, hbq⟩
      rw [HA.out]
      clear c0 c1 c2 hlt
      have hc2 := HC0.out.below hbq
      have hlt := hc2.lt
      obtain ⟨c0, c1, c2⟩ := hc2.cells3
      obtain ⟨yc0, yc1, -, -⟩ := (HY0.out.below hbq).two
      have hb3 := below_then HB2.out hbq HB2.out.size
      have HB3 := Lib.hid hb3
      have HC2 := Lib.hid hc2
      clear hbq hb3 hc2
      go_wp2_with fail
      refine (spanHolds_any (y1, y2) b _).mono ?_
      rintro e w3 ⟨rfl, hbq⟩
      rw [HB.out]
      clear c0 c1 c2 hlt
      have hc3 := HC2.out.below hbq
      have hlt := hc3.lt
      obtain ⟨c0, c1, c2⟩ := hc3.cells3
      have hb4 := below_then HB3.out hbq HB3.out.size
      have HB4 := Lib.hid hb4
      clear hbq hb4 hc3
      go_wp2
      exact ⟨rfl, rfl, HB4.out⟩
end Go.Proofs.YtedkanncdkofaaaDoor

namespace Go.Proofs.YtedkanncdkofaaaDoor
open Go.RowKit

theorem assert_clue (v : Value) (w : World) : Sem.run Tryd.prog (Instr.typeAssert (.iface 121 v) 20 121 true) w = .ok (.tuple #[v, .bool true]) w := by kernel_rfl
theorem assert_nil (w : World) : Sem.run Tryd.prog (Instr.typeAssert .nilIface 20 121 true) w = .ok (.tuple #[.agg #[.int .i64 0, .int .i64 0, .int .i64 0], .bool false]) w := by kernel_rfl
theorem five_undef : Array.replicate 5 undef = #[undef, undef, undef, undef, undef] := rfl

theorem catchCl_panicking (p : Addr) (x : Bool) (v : Value) (older : List PanicEntry) (w : World) (hc : w.cell? p = some (.bool x)) (hz : w.frozen? p = false) :
    CallsD Tryd.prog 146 #[.pointer (some p)] (.panicking ({ v := .iface 121 v, recovered := false } :: older)) w fun e u' w' =>
      e = .returned (.tuple #[]) ∧ u' = .panicking ({ v := .iface 121 v, recovered := true } :: older) ∧ w' = w.setCell p (.bool true) := by
  refine callsD_of_wpS Tryd.func146 rfl fun c₀ cs hu => ?_
  apply wpS_region
  simp [wpOpsS, go_sem, recoverD, hu, assert_clue, assert_nil, five_undef, Tryd.ntmps146, hc, hz, bodyPostS, results, Tryd.results146]

theorem catchCl_idle (p : Addr) (x : Bool) (w : World) (hc : w.cell? p = some (.bool x)) (hz : w.frozen? p = false) :
    CallsD Tryd.prog 146 #[.pointer (some p)] .returning w fun e u' w' => e = .returned (.tuple #[]) ∧ u' = .returning ∧ w' = w.setCell p (.bool false) := by
  refine callsD_of_wpS Tryd.func146 rfl fun c₀ cs hu => ?_
  apply wpS_region
  simp [wpOpsS, go_sem, recoverD, hu, assert_clue, assert_nil, five_undef, Tryd.ntmps146, hc, hz, bodyPostS, results, Tryd.results146]
  cases c₀; simp_all

set_option maxHeartbeats 1600000 in
theorem turnsAway_any (p : Int) (A : Option Addr) (n c : Nat) (cs : List Cl) (w : World) (hA : Holds w A (clsC cs)) (hx : cs.length = n) (hn : n ≤ 1048576) (hp1 : 1 ≤ p) (hp4 : p ≤ 4) :
    Calls Tryd.prog 133 #[.int .i64 p, .slice A n c] w fun e w' => e = .returned (.bool (!cs.all (clOk p))) ∧ Below w.heap.size w w' := by
  subst hx
  have hmf : ∀ (fn : Fn) (first cap : Array Value) (w : World), (Instr.makeFunc fn first cap).run Tryd.prog w = .ok (.func fn first cap) w := fun _ _ _ _ => rfl
  have hbl := below1 w (.cells #[.bool false] 4)
  have hw0 := Whole.fresh w 4 #[.bool false]
  obtain ⟨W, hW⟩ : ∃ W, W = w.alloc (.cells #[.bool false] 4) := ⟨_, rfl⟩
  have hAW : Holds W A (clsC cs) := by rw [hW]; exact hA.below hbl
  rw [← hW] at hw0 hbl
  have HAW := Lib.hid hAW
  have HB := Lib.hid hbl
  have H0 := Lib.hid hw0
  have HWW := Lib.hid hW
  clear hbl hA hAW hW hw0
  go_enter_defers Tryd.func133, Tryd.ntmps133
  go_wp2_with fail
  rw [← HWW.out]
  go_loopw [10] (fun i wr => ∃ k : Nat, i = .int .i64 k ∧ k ≤ cs.length ∧ Below W.heap.size W wr ∧ ∀ j (h : j < cs.length), j < k → clOk p cs[j] = true) (fun i _ => cs.length - (intOf i).toNat)
  case atStart => exact ⟨0, rfl, by omega, Below.refl _ _, fun j h1 h2 => absurd h2 (by omega)⟩
  case round =>
    obtain ⟨k, rfl, hk, hb, hall⟩ := hrel
    have HALL := Lib.hid hall
    clear hall
    have hbs : w.heap.size ≤ W.heap.size := HB.out.size
    by_cases hlt : k < cs.length
    · obtain ⟨g, o, rfl, hg, c0, c1, c2⟩ := cls_look (HAW.out.below hb) hlt
      obtain ⟨⟨x1, x2, x3⟩, hx⟩ : ∃ x, x = cs[k] := ⟨_, rfl⟩
      rw [← hx] at c0 c1 c2
      dsimp only at c0 c1 c2
      have hw1 := H0.out.below hb
      have hgw : w.heap.size < wr.heap.size := hw1.lt
      have hkl : (k : Int) < cs.length := by omega
      have hb1 : Below W.heap.size W (wr.alloc (.cells #[.int .i64 x1, .int .i64 x2, .int .i64 x3] 121)) := hb.alloc hb.size _
      have HB1 := Lib.hid hb1
      have HW2 := Lib.hid (hw1.alloc (.cells #[.int .i64 x1, .int .i64 x2, .int .i64 x3] 121))
      cases hok : clOk p (x1, x2, x3)
      · have HP2 := Lib.hid (all_no (p := p) (k := k) hlt (by rw [← hx]; exact hok))
        have HOK := Lib.hid hok
        clear hx hok hw1 hb hb1
        go_wp2_with fail
        refine (checkClue_no p x1 x2 x3 _ hp1 hp4 HOK.out).mono ?_
        rintro e w2 ⟨rfl, hb2⟩
        have hc2 := (HW2.out.below hb2).cells1
        have hf2 := (HW2.out.below hb2).open_ 0
        have hc3 := (show Whole (w2.setCell ⟨w.heap.size, 0, none⟩ (.bool true)) w.heap.size 4 #[.bool true] from (HW2.out.below hb2).set_ 0 (.bool true)).cells1
        have HF := Lib.hid (HB.out.trans ((HB1.out.trans (hb2.mono HB1.out.size)).mono hbs))
        clear hb2
        go_wp2_with fail
        refine leaves_cons (f := 146) (args := #[.pointer (some ⟨w.heap.size, 0, none⟩)]) (by simp) (by simp [go_sem]) ?_
        refine (catchCl_panicking ⟨w.heap.size, 0, none⟩ false _ [] _ hc2 hf2).mono ?_
        rintro e u' w'' ⟨rfl, rfl, rfl⟩
        simp [Leaves, settle, results, Tryd.results133, go_sem, hc3, HP2.out]
        exact below_set HF.out (Nat.le_refl _)
      · have HOK := Lib.hid hok
        have HX := Lib.hid hx
        clear hx hok hw1 hb hb1
        go_wp2_with fail
        refine (checkClue_yes p x1 x2 x3 _ hp1 hp4 HOK.out).mono ?_
        rintro e w2 ⟨rfl, hb2⟩
        have HF := Lib.hid (HB1.out.trans (hb2.mono HB1.out.size))
        clear hb2
        go_wp2
        go_roundw
        case rel => exact ⟨k + 1, by go_num, by omega, HF.out, fun j h1 h2 => by
          rcases Nat.lt_or_ge j k with h3 | h3
          · exact HALL.out j h1 h3
          · obtain rfl : j = k := by omega
            rw [← HX.out]; exact HOK.out⟩
        case measure => simp [intOf]; omega
    · have HP2 := Lib.hid (all_yes (p := p) (cs := cs) fun j hj => HALL.out j hj (by omega))
      have hw1 := H0.out.below hb
      have hc2 := hw1.cells1
      have hf2 := hw1.open_ 0
      have hc3 := (show Whole (wr.setCell ⟨w.heap.size, 0, none⟩ (.bool false)) w.heap.size 4 #[.bool false] from hw1.set_ 0 (.bool false)).cells1
      have HF := Lib.hid (below_then HB.out hb HB.out.size)
      clear hb hw1
      go_wp2_with fail
      refine leaves_cons (f := 146) (args := #[.pointer (some ⟨w.heap.size, 0, none⟩)]) (by simp) (by simp [go_sem]) ?_
      refine (catchCl_idle ⟨w.heap.size, 0, none⟩ false _ hc2 hf2).mono ?_
      rintro e u' w'' ⟨rfl, rfl, rfl⟩
      simp [Leaves, settle, results, Tryd.results133, go_sem, hc3, HP2.out]
      exact below_set HF.out (Nat.le_refl _)

set_option maxHeartbeats 800000 in
theorem isPuzzle_any (p : Int) (A : Option Addr) (n c : Nat) (cs : List Cl) (w : World) (hA : Holds w A (clsC cs)) (hx : cs.length = n) (hn : n ≤ 1048576) :
    Calls Tryd.prog 102 #[.agg #[.int .i64 p, .slice A n c]] w fun e w' => e = .returned (.bool (pzOk p cs)) ∧ Below w.heap.size w w' := by
  subst hx
  have hbl := below1 w (.cells #[.int .i64 p, .slice A cs.length c] 78)
  have HBL := Lib.hid hbl
  cases hpw : within p 1 4
  · have HP := Lib.hid (pzOk_people (cs := cs) hpw)
    have HW := Lib.hid hpw
    clear hpw hbl
    go_enter Tryd.func102, Tryd.ntmps102
    go_wp2_with (go_at_call 132; refine (canHide_any _ _).mono ?_; rintro e w' ⟨rfl, rfl⟩; rw [HW.out])
    go_ret
    exact ⟨ret_of (by rw [HP.out]; rfl), HBL.out⟩
  · by_cases hl : cs.length ≤ 6
    · have HP := Lib.hid (pzOk_all (cs := cs) hpw hl)
      obtain ⟨hp1, hp4⟩ := within_iff.1 hpw
      have HW := Lib.hid hpw
      have hl' : (cs.length : Int) ≤ 6 := by omega
      have HA := Lib.hid (hA.below hbl)
      clear hpw hbl hA
      go_enter Tryd.func102, Tryd.ntmps102
      go_wp2_with (go_at_call 132; refine (canHide_any _ _).mono ?_; rintro e w' ⟨rfl, rfl⟩; rw [HW.out])
      refine (turnsAway_any p A _ c cs _ HA.out rfl hn hp1 hp4).mono ?_
      rintro e w2 ⟨rfl, hb⟩
      have HF := Lib.hid (below_then HBL.out hb HBL.out.size)
      clear hb
      go_wp2
      go_ret
      exact ⟨ret_of (by rw [HP.out]; simp), HF.out⟩
    · have HP := Lib.hid (pzOk_long (p := p) (cs := cs) (by omega))
      have HW := Lib.hid hpw
      have hl' : ¬ (cs.length : Int) ≤ 6 := by omega
      clear hpw hbl
      go_enter Tryd.func102, Tryd.ntmps102
      go_wp2_with (go_at_call 132; refine (canHide_any _ _).mono ?_; rintro e w' ⟨rfl, rfl⟩; rw [HW.out])
      go_ret
      exact ⟨ret_of (by rw [HP.out]; rfl), HBL.out⟩

end Go.Proofs.YtedkanncdkofaaaDoor

namespace Go.Proofs.YtedkanncdkofaaaDoor
open Go.RowKit

set_option maxHeartbeats 1600000 in
theorem pzClue_any (p : Int) (c : Cl) (w : World) (hp : 1 ≤ p) (hp4 : p ≤ 4) :
    Calls Tryd.prog 130 #[.int .i64 p, .agg (clC c)] w fun e w' => e = .returned (.bool (clOk p c)) ∧ Below w.heap.size w w' := by
  obtain ⟨k, a, b⟩ := c
  have hbl := below1 w (.cells #[.int .i64 k, .int .i64 a, .int .i64 b] 121)
  have HBL := Lib.hid hbl
  change Calls Tryd.prog 130 #[.int .i64 p, .agg #[.int .i64 k, .int .i64 a, .int .i64 b]] w _
  clear hbl
  have hpw : IntKind.i64.wrap (p - 1) = p - 1 := IntWalk.i64_in _ (by omega)
  by_cases h0 : k = 0
  · subst h0
    cases hwa : within a 0 (p - 1)
    · have HA := Lib.hid hwa
      have HC : Hid (clOk p (0, a, b) = false) := by show _ = _; rw [clOk0, hwa]; rfl
      clear hwa
      go_enter Tryd.func130, Tryd.ntmps130
      go_wp2_with (go_at_call 110; refine (l1In_any _ _ _ _).mono ?_; rintro e w' ⟨rfl, rfl⟩; rw [HA.out])
      go_ret
      exact ⟨ret_of (by rw [HC.out]; rfl), HBL.out⟩
    · have HA := Lib.hid hwa
      have HC : Hid (clOk p (0, a, b) = within b 1 6) := by show _ = _; rw [clOk0, hwa]; rfl
      clear hwa
      go_enter Tryd.func130, Tryd.ntmps130
      go_wp2_with (go_at_call 110; refine (l1In_any _ _ _ _).mono ?_; rintro e w' ⟨rfl, rfl⟩; (try rw [HA.out]))
      go_ret
      exact ⟨ret_of (by rw [HC.out]; rfl), HBL.out⟩
  by_cases h4 : k = 4
  · subst h4
    cases hwa : within a 0 (p - 1)
    · have HA := Lib.hid hwa
      have HC : Hid (clOk p (4, a, b) = false) := by show _ = _; rw [clOk4, hwa]; rfl
      clear hwa
      go_enter Tryd.func130, Tryd.ntmps130
      go_wp2_with (go_at_call 110; refine (l1In_any _ _ _ _).mono ?_; rintro e w' ⟨rfl, rfl⟩; rw [HA.out])
      go_ret
      exact ⟨ret_of (by rw [HC.out]; rfl), HBL.out⟩
    · have HA := Lib.hid hwa
      have HC : Hid (clOk p (4, a, b) = within b 0 5) := by show _ = _; rw [clOk4, hwa]; rfl
      clear hwa
      go_enter Tryd.func130, Tryd.ntmps130
      go_wp2_with (go_at_call 110; refine (l1In_any _ _ _ _).mono ?_; rintro e w' ⟨rfl, rfl⟩; (try rw [HA.out]))
      go_ret
      exact ⟨ret_of (by rw [HC.out]; rfl), HBL.out⟩
  by_cases hb : b = 0
  · subst hb
    have e00 : within 0 0 0 = true := rfl
    by_cases h1 : k = 1
    · subst h1
      have HC : Hid (clOk p (1, a, 0) = within a 1 24) := by show _ = _; rw [clOk1, e00, Bool.and_true]
      clear h0 h4 e00
      go_enter Tryd.func130, Tryd.ntmps130
      go_wp2_with (go_at_call 110; refine (l1In_any _ _ _ _).mono ?_; rintro e w' ⟨rfl, rfl⟩)
      go_ret
      exact ⟨ret_of (by rw [HC.out]; rfl), HBL.out⟩
    by_cases h2 : k = 2
    · subst h2
      have HC : Hid (clOk p (2, a, 0) = within a 1 100) := by show _ = _; rw [clOk2, e00, Bool.and_true]
      clear h0 h4 e00 h1
      go_enter Tryd.func130, Tryd.ntmps130
      go_wp2_with (go_at_call 110; refine (l1In_any _ _ _ _).mono ?_; rintro e w' ⟨rfl, rfl⟩)
      go_ret
      exact ⟨ret_of (by rw [HC.out]; rfl), HBL.out⟩
    by_cases h3 : k = 3
    · subst h3
      have HC : Hid (clOk p (3, a, 0) = within a 1 100) := by show _ = _; rw [clOk3, e00, Bool.and_true]
      clear h0 h4 e00 h1 h2
      go_enter Tryd.func130, Tryd.ntmps130
      go_wp2_with (go_at_call 110; refine (l1In_any _ _ _ _).mono ?_; rintro e w' ⟨rfl, rfl⟩)
      go_ret
      exact ⟨ret_of (by rw [HC.out]; rfl), HBL.out⟩
    by_cases h5 : k = 5
    · subst h5
      have HC : Hid (clOk p (5, a, 0) = within a 0 p) := by show _ = _; rw [clOk5, e00, Bool.and_true]
      clear h0 h4 e00 h1 h2 h3
      go_enter Tryd.func130, Tryd.ntmps130
      go_wp2_with (go_at_call 110; refine (l1In_any _ _ _ _).mono ?_; rintro e w' ⟨rfl, rfl⟩)
      go_ret
      exact ⟨ret_of (by rw [HC.out]; rfl), HBL.out⟩
    have HC := Lib.hid (clOk_no (p := p) (a := a) (b := 0) h0 h1 h2 h3 h4 h5)
    go_enter Tryd.func130, Tryd.ntmps130
    go_wp2_with fail
    go_ret
    exact ⟨ret_of (by rw [HC.out]; rfl), HBL.out⟩
  · have HC := Lib.hid (clOk_b (p := p) (a := a) h0 h4 hb)
    go_enter Tryd.func130, Tryd.ntmps130
    go_wp2_with fail
    go_ret
    exact ⟨ret_of (by rw [HC.out]; rfl), HBL.out⟩

set_option maxHeartbeats 1600000 in
theorem pzGood_any (p : Int) (A : Option Addr) (n c : Nat) (cs : List Cl) (w : World) (hA : Holds w A (clsC cs)) (hx : cs.length = n) (hn : n ≤ 9223372036854775807) :
    Calls Tryd.prog 99 #[.agg #[.int .i64 p, .slice A n c]] w fun e w' => e = .returned (.bool (pzOk p cs)) ∧ Below w.heap.size w w' := by
  subst hx
  have hbl := below1 w (.cells #[.int .i64 p, .slice A cs.length c] 78)
  have HBL := Lib.hid hbl
  cases hpw : within p 1 4
  · have HP := Lib.hid (pzOk_people (cs := cs) hpw)
    have HW := Lib.hid hpw
    clear hpw hbl
    go_enter Tryd.func99, Tryd.ntmps99
    go_wp2_with (go_at_call 129; refine (pzPeople_any _ _).mono ?_; rintro e w' ⟨rfl, rfl⟩; rw [HW.out])
    go_ret
    exact ⟨ret_of (by rw [HP.out]; rfl), HBL.out⟩
  · by_cases hl : 6 < cs.length
    · have HP := Lib.hid (pzOk_long (p := p) hl)
      have HW := Lib.hid hpw
      have hl' : (6 : Int) < cs.length := by omega
      clear hpw hbl
      go_enter Tryd.func99, Tryd.ntmps99
      go_wp2_with (go_at_call 129; refine (pzPeople_any _ _).mono ?_; rintro e w' ⟨rfl, rfl⟩; rw [HW.out])
      go_ret
      exact ⟨ret_of (by rw [HP.out]; rfl), HBL.out⟩
    · have HP := Lib.hid (pzOk_all (cs := cs) hpw (by omega))
      have HW := Lib.hid hpw
      obtain ⟨hp1, hp4⟩ := within_iff.1 hpw
      have hl' : ¬ (6 : Int) < cs.length := by omega
      have hw0 := Whole.fresh w 78 #[.int .i64 p, .slice A cs.length c]
      obtain ⟨W, hW⟩ : ∃ W, W = w.alloc (.cells #[.int .i64 p, .slice A cs.length c] 78) := ⟨_, rfl⟩
      have hAW : Holds W A (clsC cs) := by rw [hW]; exact hA.below hbl
      rw [← hW] at hw0 hbl
      have HAW := Lib.hid hAW
      have HB := Lib.hid hbl
      have H0 := Lib.hid hw0
      have HWW := Lib.hid hW
      clear hpw hbl HBL hA hAW hW hw0
      go_enter Tryd.func99, Tryd.ntmps99
      go_wp2_with (go_at_call 129; refine (pzPeople_any _ _).mono ?_; rintro e w' ⟨rfl, rfl⟩; rw [HW.out])
      rw [← HWW.out]
      go_loopw [18] (fun i wr => ∃ k : Nat, i = .int .i64 k ∧ k ≤ cs.length ∧ Below W.heap.size W wr ∧ ∀ j (h : j < cs.length), j < k → clOk p cs[j] = true) (fun i _ => cs.length - (intOf i).toNat)
      case atStart => exact ⟨0, rfl, by omega, Below.refl _ _, fun j h1 h2 => absurd h2 (by omega)⟩
      case round =>
        obtain ⟨k, rfl, hk, hb, hall⟩ := hrel
        have HALL := Lib.hid hall
        clear hall
        by_cases hlt : k < cs.length
        · obtain ⟨g, o, rfl, hg, c0, c1, c2⟩ := cls_look (HAW.out.below hb) hlt
          obtain ⟨⟨x1, x2, x3⟩, hx⟩ : ∃ x, x = cs[k] := ⟨_, rfl⟩
          rw [← hx] at c0 c1 c2
          dsimp only at c0 c1 c2
          have hw1 := H0.out.below hb
          obtain ⟨d0, d1⟩ := hw1.cells2
          have hgw : w.heap.size < wr.heap.size := hw1.lt
          have hkl : (k : Int) < cs.length := by omega
          have hb1 : Below W.heap.size W (wr.alloc (.cells #[.int .i64 x1, .int .i64 x2, .int .i64 x3] 121)) := hb.alloc hb.size _
          have HB1 := Lib.hid hb1
          have hbs : w.heap.size ≤ W.heap.size := HB.out.size
          cases hok : clOk p (x1, x2, x3)
          · have HP2 := Lib.hid (HP.out.trans (all_no (p := p) (k := k) hlt (by rw [← hx]; exact hok)))
            have HOK := Lib.hid hok
            clear hx hok hw1 hb hb1
            go_wp2_with fail
            refine (pzClue_any p (x1, x2, x3) _ hp1 hp4).mono ?_
            rintro e w2 ⟨rfl, hb2⟩
            rw [HOK.out]
            have HF := Lib.hid (HB.out.trans ((HB1.out.trans (hb2.mono HB1.out.size)).mono hbs))
            clear hb2
            go_wp2
            go_ret
            exact ⟨ret_of (by rw [HP2.out]; rfl), HF.out⟩
          · have HOK := Lib.hid hok
            have HX := Lib.hid hx
            clear hx hok hw1 hb hb1
            go_wp2_with fail
            refine (pzClue_any p (x1, x2, x3) _ hp1 hp4).mono ?_
            rintro e w2 ⟨rfl, hb2⟩
            rw [HOK.out]
            have HF := Lib.hid (HB1.out.trans (hb2.mono HB1.out.size))
            clear hb2
            go_wp2
            go_roundw
            case rel => exact ⟨k + 1, by go_num, by omega, HF.out, fun j h1 h2 => by
              rcases Nat.lt_or_ge j k with h3 | h3
              · exact HALL.out j h1 h3
              · obtain rfl : j = k := by omega
                rw [← HX.out]; exact HOK.out⟩
            case measure => simp [intOf]; omega
        · have HP2 := Lib.hid (HP.out.trans (all_yes (p := p) fun j hj => HALL.out j hj (by omega)))
          have HF := Lib.hid (below_then HB.out hb HB.out.size)
          clear hb
          go_wp2
          go_ret
          exact ⟨ret_of (by rw [HP2.out]; rfl), HF.out⟩

theorem pzOk_one (p : Int) (c : Cl) : pzOk p [c] = (within p 1 4 && clOk p c) := by simp [pzOk]
end Go.Proofs.YtedkanncdkofaaaDoor

namespace Go.Proofs.YtedkanncdkofaaaDoor
open Go.RowKit

/-- A row of the call's own: it begins at the head of a block from lo on and before hi, and its first cells are xs. -/
def Fresh (w : World) (lo hi : Nat) (ty : TypeId) (A : Option Addr) (xs : List Value) : Prop :=
  xs = [] ∨ ∃ (g : Nat) (cs : Array Value), A = some ⟨g, 0, none⟩ ∧ lo ≤ g ∧ g < hi ∧ Whole w g ty cs ∧ xs.length ≤ cs.size ∧ cs.toList.take xs.length = xs
/-- Of what was there, only blocks from lo on and before hi may have turned. -/
structure Span (lo hi : Nat) (w w' : World) : Prop where
  os : w'.os = w.os
  tape : w'.tape = w.tape
  output : w'.output = w.output
  size : w.heap.size ≤ w'.heap.size
  block : ∀ k, k < w.heap.size → (k < lo ∨ hi ≤ k) → w'.heap[k]? = w.heap[k]?

section
variable {w w' : World} {lo hi lo' hi' B : Nat} {ty : TypeId} {A : Option Addr} {xs : List Value}
theorem Span.refl (lo hi : Nat) (w : World) : Span lo hi w w := ⟨rfl, rfl, rfl, Nat.le_refl _, fun _ _ _ => rfl⟩
theorem Span.of_below (h : Below w.heap.size w w') (lo hi : Nat) : Span lo hi w w' := ⟨h.os, h.tape, h.output, h.size, fun k hk _ => h.block k hk⟩
theorem Span.trans {a b c : World} (h : Span lo hi a b) (k : Span lo hi b c) : Span lo hi a c :=
  ⟨k.os.trans h.os, k.tape.trans h.tape, k.output.trans h.output, Nat.le_trans h.size k.size, fun i hi hne => (k.block i (Nat.lt_of_lt_of_le hi h.size) hne).trans (h.block i hi hne)⟩
theorem Span.below {a : World} (h : Span lo hi w w') (hb : Below B a w) (hB : B ≤ lo) (hs : B ≤ w.heap.size) : Below B a w' :=
  hb.trans ⟨h.os, h.tape, h.output, h.size, fun k hk => h.block k (by omega) (.inl (by omega))⟩
theorem Span.whole {g : Nat} {cs : Array Value} (h : Span lo hi w w') (hw : Whole w g ty cs) (hg : g < lo ∨ hi ≤ g) : Whole w' g ty cs := (h.block g hw.lt hg).trans hw
theorem Span.fresh (h : Span lo hi w w') (hf : Fresh w lo' hi' ty A xs) (hd : hi' ≤ lo ∨ hi ≤ lo') : Fresh w' lo' hi' ty A xs := by
  rcases hf with rfl | ⟨g, cs, hA, h1, h2, hw, h3, h4⟩
  · exact .inl rfl
  · exact .inr ⟨g, cs, hA, h1, h2, h.whole hw (by omega), h3, h4⟩
theorem Fresh.below (hf : Fresh w lo hi ty A xs) (h : Below w.heap.size w w') : Fresh w' lo hi ty A xs := by
  rcases hf with rfl | ⟨g, cs, hA, h1, h2, hw, h3, h4⟩
  · exact .inl rfl
  · exact .inr ⟨g, cs, hA, h1, h2, hw.below h, h3, h4⟩
theorem Fresh.alloc (hf : Fresh w lo hi ty A xs) (o : Obj) : Fresh (w.alloc o) lo hi ty A xs := hf.below (below1 w o)
theorem Fresh.drew (hf : Fresh w lo hi ty A xs) : Fresh w.drew lo hi ty A xs := hf
theorem Fresh.more (hf : Fresh w lo hi ty A xs) (h1 : lo' ≤ lo) (h2 : hi ≤ hi') : Fresh w lo' hi' ty A xs := by
  rcases hf with rfl | ⟨g, cs, hA, h3, h4, hw, h5, h6⟩
  · exact .inl rfl
  · exact .inr ⟨g, cs, hA, by omega, by omega, hw, h5, h6⟩
theorem Fresh.holds (hf : Fresh w lo hi ty A xs) : Holds w A xs := by
  rcases hf with rfl | ⟨g, cs, hA, -, -, hw, -, h4⟩
  · exact .inl rfl
  · refine .inr ⟨g, 0, hA, hw.lt, fun j u hu => ?_⟩
    have hj : j < xs.length := (List.getElem?_eq_some_iff.1 hu).1
    rw [Nat.zero_add, hw.cell j, ← hu]
    have := congrArg (fun l : List Value => l[j]?) h4
    simpa [List.getElem?_take, hj] using this
theorem Fresh.of_whole {g : Nat} (hw : Whole w g ty xs.toArray) (h1 : lo ≤ g) (h2 : g < hi) : Fresh w lo hi ty (some ⟨g, 0, none⟩) xs :=
  .inr ⟨g, _, rfl, h1, h2, hw, by simp, by simp⟩
theorem Fresh.of_own {n : Nat} {v : Value} (h : w.ownsRow lo ty 1 v n xs) (hs : w.heap.size ≤ hi) : ∃ (A : Option Addr) (c : Nat), v = .slice A n c ∧ Fresh w lo hi ty A xs := by
  obtain ⟨hl, h⟩ := h
  rcases h with ⟨hv, hn⟩ | ⟨g, cap, cur, hv, hg, hh, h1, h2, h3, h4⟩
  · subst hn
    exact ⟨none, 0, hv, .inl (List.eq_nil_of_length_eq_zero (by simpa using hl))⟩
  · have hw : Whole w g ty cur := hh
    refine ⟨_, cap, hv, .inr ⟨g, cur, rfl, hg, Nat.lt_of_lt_of_le hw.lt hs, hw, by omega, ?_⟩⟩
    rw [hl]
    exact h4
end

def marksI (k : Int) (n : Nat) : List Int := (List.range n).map fun (i : Nat) => k + (i : Int)
def marksB (k : Int) (n : Nat) : List Bool := (List.range n).map fun (i : Nat) => (k + (i : Int)) % 3 == 0
theorem marksI_len (k : Int) (n : Nat) : (marksI k n).length = n := by simp [marksI]
theorem marksB_len (k : Int) (n : Nat) : (marksB k n).length = n := by simp [marksB]

/-- The first k cells overwritten by the count from q on. -/
def marked (f : Nat → Value) (cs : Array Value) (k : Nat) : Array Value := ((List.range k).map f ++ cs.toList.drop k).toArray
theorem marked_zero (f : Nat → Value) (cs : Array Value) : marked f cs 0 = cs := by simp [marked]
theorem marked_at (f : Nat → Value) (cs : Array Value) {k : Nat} (h : k < cs.size) : ∃ u, (marked f cs k)[k]? = some u := by
  refine ⟨cs[k], ?_⟩
  simp only [marked, List.getElem?_toArray]
  rw [List.getElem?_append_right (by simp)]
  simp [h]
theorem marked_next (f : Nat → Value) (cs : Array Value) {k : Nat} (h : k < cs.size) : (marked f cs k).setIfInBounds k (f k) = marked f cs (k + 1) := by
  apply Array.ext_getElem?
  intro j
  rw [Array.getElem?_setIfInBounds]
  simp only [marked, List.getElem?_toArray, List.size_toArray, List.length_append, List.length_map, List.length_range, List.length_drop, Array.length_toList]
  by_cases hj : k = j
  · subst hj
    rw [if_pos rfl, if_pos (by omega), List.getElem?_append_left (by simp)]
    simp
  · rw [if_neg hj]
    by_cases hlt : j < k
    · rw [List.getElem?_append_left (by simpa using hlt), List.getElem?_append_left (by simp; omega)]
      simp [hlt, Nat.lt_succ_of_lt hlt]
    · rw [List.getElem?_append_right (by simp; omega), List.getElem?_append_right (by simp; omega)]
      simp only [List.length_map, List.length_range, List.getElem?_drop]
      congr 1
      omega
theorem marked_take (f : Nat → Value) (cs : Array Value) (n : Nat) : (marked f cs n).toList.take n = (List.range n).map f := by
  simp [marked]

set_option maxHeartbeats 800000 in
theorem markBoolS_any (A : Option Addr) (n c lo hi : Nat) (xs : List Value) (q : Int) (w : World) (hf : Fresh w lo hi 4 A xs) (hx : xs.length = n) (h0 : 0 ≤ q) (h1 : q ≤ 4611686018427387904) (hn : n ≤ 1048576) :
    Calls Tryd.prog 92 #[.slice A n c, .int .i64 q] w fun e w' => e = .returned (.int .i64 (q + n)) ∧ Span lo hi w w' ∧ Fresh w' lo hi 4 A (bits (marksB q n)) := by
  subst hx
  rcases hf with rfl | ⟨g, cs, rfl, hlo, hhi, hw, hle, htk⟩
  · go_enter Tryd.func92, Tryd.ntmps92
    go_wp2
    refine wp_loop_rounds 1 ?_
    rw [rounds_succ]
    go_wp2
    go_ret
    exact ⟨ret_of (by simp), Span.refl _ _ _, .inl (by simp [marksB, bits])⟩
  · have HT := Lib.hid htk
    clear htk
    have hm0 : Whole w g 4 (marked (fun i : Nat => .bool ((q + (i : Int)) % 3 == 0)) cs 0) := by rw [marked_zero]; exact hw
    have hgl := hw.lt
    go_enter Tryd.func92, Tryd.ntmps92
    go_wp2
    go_loopw [1, 5] (fun v i wr => ∃ k : Nat, k ≤ xs.length ∧ i = .int .i64 k ∧ v = .int .i64 (q + k) ∧ Whole wr g 4 (marked (fun i : Nat => .bool ((q + (i : Int)) % 3 == 0)) cs k) ∧ Span lo hi w wr) (fun _ i _ => xs.length - (intOf i).toNat)
    case atStart => exact ⟨0, Nat.zero_le _, rfl, by simp, hm0, Span.refl _ _ _⟩
    case round =>
      obtain ⟨k, hk, rfl, rfl, hm, hs⟩ := hrel
      clear hm0 hw
      by_cases hlt : k < xs.length
      · obtain ⟨u, hu⟩ := marked_at (fun i : Nat => .bool ((q + (i : Int)) % 3 == 0)) cs (show k < cs.size by omega)
        have hcell := (hm.cell k).trans hu
        have hfr := hm.open_ k
        have hset := hm.set_ k (.bool ((q + k) % 3 == 0))
        rw [marked_next (fun i : Nat => .bool ((q + (i : Int)) % 3 == 0)) cs (show k < cs.size by omega)] at hset
        have hs' : Span lo hi w (wr.setCell ⟨g, k, none⟩ (.bool ((q + k) % 3 == 0))) :=
          hs.trans ⟨rfl, rfl, rfl, by simp [World.setCell], fun j _ hj => Below.heap_setCell _ _ _ _ (by show j ≠ g; omega)⟩
        clear hm hu hs
        have hq0 : (0 : Int) ≤ q + k := by omega
        go_wp2
        go_roundw
        case rel => exact ⟨k + 1, by omega, by go_num, by first | exact congrArg _ (by omega) | (simp; omega), hset, hs'⟩
        case measure => simp [intOf]; omega
      · have hkn : k = xs.length := by omega
        subst hkn
        go_wp2
        go_ret
        refine ⟨rfl, hs, .inr ⟨g, _, rfl, hlo, hhi, hm, ?_, ?_⟩⟩
        · simp [bits_len, marksB_len, marked]
        · rw [bits_len, marksB_len, marked_take _ _ _]
          simp [bits, marksB]
set_option maxHeartbeats 800000 in
theorem markIntS_any (A : Option Addr) (n c lo hi : Nat) (xs : List Value) (q : Int) (w : World) (hf : Fresh w lo hi 3 A xs) (hx : xs.length = n) (h0 : 0 ≤ q) (h1 : q ≤ 4611686018427387904) (hn : n ≤ 1048576) :
    Calls Tryd.prog 70 #[.slice A n c, .int .i64 q] w fun e w' => e = .returned (.int .i64 (q + n)) ∧ Span lo hi w w' ∧ Fresh w' lo hi 3 A (nums (marksI q n)) := by
  subst hx
  rcases hf with rfl | ⟨g, cs, rfl, hlo, hhi, hw, hle, htk⟩
  · go_enter Tryd.func70, Tryd.ntmps70
    go_wp2
    refine wp_loop_rounds 1 ?_
    rw [rounds_succ]
    go_wp2
    go_ret
    exact ⟨ret_of (by simp), Span.refl _ _ _, .inl (by simp [marksI, nums])⟩
  · have HT := Lib.hid htk
    clear htk
    have hm0 : Whole w g 3 (marked (fun i : Nat => .int .i64 (q + (i : Int))) cs 0) := by rw [marked_zero]; exact hw
    have hgl := hw.lt
    go_enter Tryd.func70, Tryd.ntmps70
    go_wp2
    go_loopw [1, 5] (fun v i wr => ∃ k : Nat, k ≤ xs.length ∧ i = .int .i64 k ∧ v = .int .i64 (q + k) ∧ Whole wr g 3 (marked (fun i : Nat => .int .i64 (q + (i : Int))) cs k) ∧ Span lo hi w wr) (fun _ i _ => xs.length - (intOf i).toNat)
    case atStart => exact ⟨0, Nat.zero_le _, rfl, by simp, hm0, Span.refl _ _ _⟩
    case round =>
      obtain ⟨k, hk, rfl, rfl, hm, hs⟩ := hrel
      clear hm0 hw
      by_cases hlt : k < xs.length
      · obtain ⟨u, hu⟩ := marked_at (fun i : Nat => .int .i64 (q + (i : Int))) cs (show k < cs.size by omega)
        have hcell := (hm.cell k).trans hu
        have hfr := hm.open_ k
        have hset := hm.set_ k (.int .i64 (q + k))
        rw [marked_next (fun i : Nat => .int .i64 (q + (i : Int))) cs (show k < cs.size by omega)] at hset
        have hs' : Span lo hi w (wr.setCell ⟨g, k, none⟩ (.int .i64 (q + k))) :=
          hs.trans ⟨rfl, rfl, rfl, by simp [World.setCell], fun j _ hj => Below.heap_setCell _ _ _ _ (by show j ≠ g; omega)⟩
        clear hm hu hs
        have hq0 : (0 : Int) ≤ q + k := by omega
        go_wp2
        go_roundw
        case rel => exact ⟨k + 1, by omega, by go_num, by first | exact congrArg _ (by omega) | (simp; omega), hset, hs'⟩
        case measure => simp [intOf]; omega
      · have hkn : k = xs.length := by omega
        subst hkn
        go_wp2
        go_ret
        refine ⟨rfl, hs, .inr ⟨g, _, rfl, hlo, hhi, hm, ?_, ?_⟩⟩
        · simp [nums_len, marksI_len, marked]
        · rw [nums_len, marksI_len, marked_take _ _ _]
          simp [nums, marksI]

set_option maxHeartbeats 800000 in
theorem heldBoolS_any (A : Option Addr) (n c : Nat) (q : Int) (w : World) (hA : Holds w A (bits (marksB q n))) (h0 : 0 ≤ q) (h1 : q ≤ 4611686018427387904) (hn : n ≤ 1048576) :
    Calls Tryd.prog 93 #[.slice A n c, .int .i64 q] w fun e w' => e = .returned (.int .i64 (q + n)) ∧ w = w' := by
  have hl := marksB_len q n
  have HL := Lib.hid hl
  clear hl
  go_enter Tryd.func93, Tryd.ntmps93
  go_wp2
  go_loop [1, 5] (fun v i => ∃ k : Nat, k ≤ n ∧ i = .int .i64 k ∧ v = .int .i64 (q + k)) (fun _ i => n - (intOf i).toNat)
  case atStart => exact ⟨0, Nat.zero_le _, rfl, by simp⟩
  case round =>
    obtain ⟨k, hk, rfl, rfl⟩ := hrel
    by_cases hlt : k < n
    · obtain ⟨b, o, rfl, hb, hc⟩ := hA.look (k := k) (by rw [bits_len, HL.out]; exact hlt)
      have hv : (bits (marksB q n))[k]'(by rw [bits_len, HL.out]; exact hlt) = .bool ((q + (k : Int)) % 3 == 0) := by simp [bits, marksB]
      rw [hv] at hc
      clear hv
      have hq0 : (0 : Int) ≤ q + k := by omega
      go_wp2
      go_round
      case rel => exact ⟨k + 1, by omega, by go_num, by first | exact congrArg _ (by omega) | (simp; omega)⟩
      case measure => simp [intOf]; omega
    · have hkn : k = n := by omega
      subst hkn
      go_wp2
      go_ret
      exact ⟨rfl, rfl⟩

set_option maxHeartbeats 800000 in
theorem heldIntS_any (A : Option Addr) (n c : Nat) (q : Int) (w : World) (hA : Holds w A (nums (marksI q n))) (h0 : 0 ≤ q) (h1 : q ≤ 4611686018427387904) (hn : n ≤ 1048576) :
    Calls Tryd.prog 71 #[.slice A n c, .int .i64 q] w fun e w' => e = .returned (.int .i64 (q + n)) ∧ w = w' := by
  have hl := marksI_len q n
  have HL := Lib.hid hl
  clear hl
  go_enter Tryd.func71, Tryd.ntmps71
  go_wp2
  go_loop [1, 5] (fun v i => ∃ k : Nat, k ≤ n ∧ i = .int .i64 k ∧ v = .int .i64 (q + k)) (fun _ i => n - (intOf i).toNat)
  case atStart => exact ⟨0, Nat.zero_le _, rfl, by simp⟩
  case round =>
    obtain ⟨k, hk, rfl, rfl⟩ := hrel
    by_cases hlt : k < n
    · obtain ⟨b, o, rfl, hb, hc⟩ := hA.look (k := k) (by rw [nums_len, HL.out]; exact hlt)
      have hv : (nums (marksI q n))[k]'(by rw [nums_len, HL.out]; exact hlt) = .int .i64 (q + (k : Int)) := by simp [nums, marksI]
      rw [hv] at hc
      clear hv
      have hq0 : (0 : Int) ≤ q + k := by omega
      go_wp2
      go_round
      case rel => exact ⟨k + 1, by omega, by go_num, by first | exact congrArg _ (by omega) | (simp; omega)⟩
      case measure => simp [intOf]; omega
    · have hkn : k = n := by omega
      subst hkn
      go_wp2
      go_ret
      exact ⟨rfl, rfl⟩

set_option maxHeartbeats 400000 in
theorem markParty_any (A : Option Addr) (n c lo hi : Nat) (xs : List Value) (s q : Int) (w : World) (hf : Fresh w lo hi 3 A xs) (hx : xs.length = n) (h0 : 0 ≤ q) (h1 : q ≤ 4611686018427387904) (hn : n ≤ 1048576) :
    Calls Tryd.prog 20 #[.agg #[.slice A n c, .int .i64 s], .int .i64 q] w fun e w' => e = .returned (.int .i64 (q + n)) ∧ Span lo hi w w' ∧ Fresh w' lo hi 3 A (nums (marksI q n)) := by
  have HX := Lib.hid hx
  clear hx
  go_enter Tryd.func20, Tryd.ntmps20
  go_wp2_with fail
  refine (markIntS_any A n c lo hi xs q _ (hf.alloc _) HX.out h0 h1 hn).mono ?_
  rintro e w1 ⟨rfl, hs, hf1⟩
  go_wp2
  go_ret
  exact ⟨rfl, (Span.of_below (below1 w _) lo hi).trans hs, hf1⟩

set_option maxHeartbeats 400000 in
theorem heldParty_any (A : Option Addr) (n c : Nat) (s q : Int) (w : World) (hA : Holds w A (nums (marksI q n))) (h0 : 0 ≤ q) (h1 : q ≤ 4611686018427387904) (hn : n ≤ 1048576) :
    Calls Tryd.prog 21 #[.agg #[.slice A n c, .int .i64 s], .int .i64 q] w fun e w' => e = .returned (.int .i64 (q + n)) ∧ Below w.heap.size w w' := by
  have hq0 : (0 : Int) ≤ q + n := by omega
  go_enter Tryd.func21, Tryd.ntmps21
  go_wp2_with fail
  refine (heldIntS_any A n c q _ (hA.alloc _) h0 h1 hn).mono ?_
  rintro e w1 ⟨rfl, rfl⟩
  go_wp2
  go_ret
  exact ⟨rfl, below1 w _⟩
end Go.Proofs.YtedkanncdkofaaaDoor

namespace Go.Proofs.YtedkanncdkofaaaDoor
open Go.RowKit

/-- What a call hands back that makes a list of truth values. -/
def BitsPost (bs : List Bool) (w : World) (e : Ending) (w' : World) : Prop :=
  ∃ (A : Option Addr) (c : Nat), e = .returned (.slice A bs.length c) ∧ Fresh w' w.heap.size w'.heap.size 4 A (bits bs) ∧ Below w.heap.size w w'
/-- What a call hands back that makes a state and tells whether it did. -/
def StatePost (bs : List Bool) (t ok : Bool) (w : World) (e : Ending) (w' : World) : Prop :=
  ∃ (A : Option Addr) (c : Nat), e = .returned (.tuple #[.agg #[.slice A bs.length c, .bool t], .bool ok]) ∧ Fresh w' w.heap.size w'.heap.size 4 A (bits bs) ∧ Below w.heap.size w w'

theorem bits_one (bs : List Bool) : ∀ u ∈ bits bs, u.oneCell' = true := by
  intro v hv
  simp only [bits, List.mem_map] at hv
  obtain ⟨x, -, rfl⟩ := hv
  rfl

/-- So many people, none over. -/
def falses (n : Nat) : List Bool := List.replicate n false
theorem falses_len (n : Nat) : (falses n).length = n := by simp [falses]

/-- The places of the first state: none where there is no party. -/
def firstBits (xs : List Int) (n : Nat) (s : Int) : List Bool := if isParty xs s then falses n else []
theorem firstBits_le (xs : List Int) (n : Nat) (s : Int) : (firstBits xs n s).length ≤ n := by
  rw [firstBits]
  split
  · rw [falses_len]; exact Nat.le_refl _
  · simp

end Go.Proofs.YtedkanncdkofaaaDoor

namespace Go.Proofs.YtedkanncdkofaaaDoor
open Go.RowKit

/-- What a call hands back that makes a state. -/
def StateRes (bs : List Bool) (t : Bool) (w : World) (e : Ending) (w' : World) : Prop :=
  ∃ (A : Option Addr) (c : Nat), e = .returned (.agg #[.slice A bs.length c, .bool t]) ∧ Fresh w' w.heap.size w'.heap.size 4 A (bits bs) ∧ Below w.heap.size w w'

theorem Fresh.set_out {w : World} {lo hi b o : Nat} {ty : TypeId} {A : Option Addr} {xs : List Value} {u : Value} (hf : Fresh w lo hi ty A xs) (hb : b < lo ∨ hi ≤ b) : Fresh (w.setCell ⟨b, o, none⟩ u) lo hi ty A xs := by
  rcases hf with rfl | ⟨g, cs, hA, h1, h2, hw, h3, h4⟩
  · exact .inl rfl
  · exact .inr ⟨g, cs, hA, h1, h2, hw.off (by omega), h3, h4⟩

theorem falses_get (n i : Nat) : (falses n).getD i false = false := by
  simp only [falses, List.getD_eq_getElem?_getD, List.getElem?_replicate]
  split <;> rfl
theorem place_falses (n : Nat) : placeCells (falses n) false = placeCells [] false := by
  simp only [placeCells, falses_get]
  rfl

end Go.Proofs.YtedkanncdkofaaaDoor
