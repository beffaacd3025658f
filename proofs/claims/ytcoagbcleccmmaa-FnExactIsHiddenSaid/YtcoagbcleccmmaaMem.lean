/-
  What is proved: plain facts on memory for this seat's walks: a slice that stands for a list of one-cell values, and a block that is known whole; both outlive whatever leaves the blocks below them alone. Conditions: none.
-/
import Derived.Test.YtcoagbcleccmmaaProg
import Derived.WalkKit
import Derived.Below
import Derived.Laws.OwnMore
import Derived.Laws.MakeOwn
import Derived.Deep.Draws
namespace Go.Proofs.Ytcoagbcleccmmaa
open Go.RowKit

/-- The numbers as cells. -/
def nums (zs : List Int) : List Value := zs.map (Value.int .i64)
/-- The truth values as cells. -/
def bits (bs : List Bool) : List Value := bs.map Value.bool

theorem nums_len (zs : List Int) : (nums zs).length = zs.length := by simp [nums]
theorem bits_len (bs : List Bool) : (bits bs).length = bs.length := by simp [bits]

/-- From address A on the world holds the cells xs (nothing is said where xs is empty). -/
def Holds (w : World) (A : Option Addr) (xs : List Value) : Prop :=
  xs = [] ∨ ∃ b o, A = some ⟨b, o, none⟩ ∧ b < w.heap.size ∧ ∀ j u, xs[j]? = some u → w.cell? ⟨b, o + j, none⟩ = some u

/-- Block g is just the cells cs of the element type t, open to writes. -/
def Whole (w : World) (g : Nat) (t : TypeId) (cs : Array Value) : Prop := w.heap[g]? = some (.cells cs t (0, 0))

section
variable {w w' : World} {A : Option Addr} {xs : List Value} {g : Nat} {t : TypeId} {cs : Array Value}

theorem Holds.empty (w : World) (A : Option Addr) : Holds w A [] := .inl rfl

theorem Holds.look {k : Nat} (h : Holds w A xs) (hk : k < xs.length) : ∃ b o, A = some ⟨b, o, none⟩ ∧ b < w.heap.size ∧ w.cell? ⟨b, o + k, none⟩ = some xs[k] := by
  rcases h with rfl | ⟨b, o, hA, hb, hc⟩
  · simp at hk
  · exact ⟨b, o, hA, hb, hc k _ (List.getElem?_eq_getElem hk)⟩

theorem Holds.keep (h : Holds w A xs) (hs : w.heap.size ≤ w'.heap.size) (hk : ∀ p : Addr, p.block < w.heap.size → w'.cell? p = w.cell? p) : Holds w' A xs := by
  rcases h with rfl | ⟨b, o, hA, hb, hc⟩
  · exact .inl rfl
  · exact .inr ⟨b, o, hA, by omega, fun j u hu => (hk ⟨b, o + j, none⟩ hb).trans (hc j u hu)⟩

theorem Holds.below (h : Holds w A xs) (hb : Below w.heap.size w w') : Holds w' A xs := h.keep hb.size fun _ hp => hb.cell hp
theorem Holds.drew (h : Holds w A xs) : Holds w.drew A xs := h
theorem Holds.alloc (h : Holds w A xs) (o : Obj) : Holds (w.alloc o) A xs := h.keep (by simp) fun p hp => World.cell?_alloc_lt w o p hp

theorem Whole.lt (h : Whole w g t cs) : g < w.heap.size := by
  rcases Nat.lt_or_ge g w.heap.size with hl | hl
  · exact hl
  · unfold Whole at h; rw [Array.getElem?_eq_none hl] at h; cases h
theorem Whole.cell (h : Whole w g t cs) (i : Nat) : w.cell? ⟨g, i, none⟩ = cs[i]? := by
  unfold Whole at h
  simp [World.cell?, h]
theorem Whole.open_ (h : Whole w g t cs) (i : Nat) : w.frozen? ⟨g, i, none⟩ = false := by
  unfold Whole at h
  simp [World.frozen?, h]
theorem Whole.below (h : Whole w g t cs) (hb : Below w.heap.size w w') : Whole w' g t cs := (hb.block g h.lt).trans h
theorem Whole.below' {B : Nat} (h : Whole w g t cs) (hb : Below B w w') (hg : g < B) : Whole w' g t cs := (hb.block g hg).trans h
theorem Whole.drew (h : Whole w g t cs) : Whole w.drew g t cs := h
theorem Whole.alloc (h : Whole w g t cs) (o : Obj) : Whole (w.alloc o) g t cs := (Below.heap_alloc w o g h.lt).trans h
theorem Whole.far (h : Whole w g t cs) {p : Addr} (hp : g ≠ p.block) (u : Value) : Whole (w.setCell p u) g t cs := (Below.heap_setCell w p u g hp).trans h
theorem Whole.set_ (h : Whole w g t cs) (i : Nat) (u : Value) : Whole (w.setCell ⟨g, i, none⟩ u) g t (cs.setIfInBounds i u) := by
  unfold Whole at h ⊢
  simp [World.setCell, Array.getElem?_modify, h]
theorem Whole.fresh (w : World) (t : TypeId) (cs : Array Value) : Whole (w.alloc (.cells cs t)) w.heap.size t cs := by
  unfold Whole World.alloc
  simp
theorem Whole.holds (h : Whole w g t cs) : Holds w (some ⟨g, 0, none⟩) cs.toList :=
  .inr ⟨g, 0, rfl, h.lt, fun j u hu => by rw [Nat.zero_add, h.cell j]; simpa using hu⟩
end

/-- Behind a call that leaves all that was there alone: the old cells and the old marks, as two rules for the walk. -/
theorem kept {w w' : World} (hb : Below w.heap.size w w') :
    (∀ b o, b < w.heap.size → w'.cell? ⟨b, o, none⟩ = w.cell? ⟨b, o, none⟩) ∧ (∀ b o, b < w.heap.size → w'.frozen? ⟨b, o, none⟩ = w.frozen? ⟨b, o, none⟩) :=
  ⟨fun b o h => hb.cell (p := ⟨b, o, none⟩) h, fun b o h => hb.frozen (p := ⟨b, o, none⟩) h⟩

/-- The same three words with the block's number written out, for omega. -/
theorem Whole.off {w : World} {g b o : Nat} {t : TypeId} {cs : Array Value} {u : Value} (h : Whole w g t cs) (hne : g ≠ b) : Whole (w.setCell ⟨b, o, none⟩ u) g t cs := h.far (p := ⟨b, o, none⟩) hne u
theorem below_set {B b o : Nat} {a w : World} {u : Value} (h : Below B a w) (hb : B ≤ b) : Below B a (w.setCell ⟨b, o, none⟩ u) := h.setCell (p := ⟨b, o, none⟩) hb u
theorem below1 (w : World) (x : Obj) : Below w.heap.size w (w.alloc x) := (Below.refl _ _).alloc (Nat.le_refl _) x
theorem below2 (w : World) (x y : Obj) : Below w.heap.size w ((w.alloc x).alloc y) := (below1 w x).alloc (by simp) y
theorem below3 (w : World) (x y z : Obj) : Below w.heap.size w (((w.alloc x).alloc y).alloc z) := (below2 w x y).alloc (by simp; omega) z
theorem below4 (w : World) (x y z u : Obj) : Below w.heap.size w ((((w.alloc x).alloc y).alloc z).alloc u) := (below3 w x y z).alloc (by simp; omega) u
theorem below_then {a b c : World} {B : Nat} (h : Below B a b) (k : Below b.heap.size b c) (hB : B ≤ b.heap.size) : Below B a c := h.trans (k.mono hB)

theorem below_draws {B : Nat} {a w : World} (h : Below B a w) (n : Nat) : Below B a (w.drewN n) := ⟨h.os, h.tape, h.output, h.size, h.block⟩

/-- The cells and marks of a block of two cells. -/
theorem Whole.two {w : World} {g : Nat} {t : TypeId} {a b : Value} (h : Whole w g t #[a, b]) :
    w.cell? ⟨g, 0, none⟩ = some a ∧ w.cell? ⟨g, 1, none⟩ = some b ∧ w.frozen? ⟨g, 0, none⟩ = false ∧ w.frozen? ⟨g, 1, none⟩ = false :=
  ⟨(h.cell 0).trans rfl, (h.cell 1).trans rfl, h.open_ 0, h.open_ 1⟩

theorem ret_of {v u : Value} (h : v = u) : Ending.returned v = .returned u := by rw [h]
end Go.Proofs.Ytcoagbcleccmmaa
