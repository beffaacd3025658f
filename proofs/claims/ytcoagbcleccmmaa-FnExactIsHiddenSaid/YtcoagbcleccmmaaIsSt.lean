/-
  What is proved: contracts of the model's and the program's tests of a state. Conditions: the party's times and the state's places are read as they lie.
-/
import Derived.Test.YtcoagbcleccmmaaState
import Derived.Test.YtcoagbcleccmmaaIsPa
import Derived.Laws.CopyOwn
namespace Go.Proofs.Ytcoagbcleccmmaa
open Go.RowKit

/-- A state, told in plain words: as long as the party, and the torch is where somebody is. -/
def isState (n : Nat) (bs : List Bool) (t : Bool) : Bool := decide (bs.length = n) && bs.any (· == t)
theorem isState_len {n : Nat} {bs : List Bool} {t : Bool} (h : bs.length ≠ n) : isState n bs t = false := by simp [isState, h]
theorem isState_has {n : Nat} {bs : List Bool} {t : Bool} (h : bs.length = n) {k : Nat} (hk : k < bs.length) (he : bs[k] = t) : isState n bs t = true := by
  simp only [isState, h, decide_true, Bool.true_and, List.any_eq_true]
  exact ⟨bs[k], List.getElem_mem hk, by simp [he]⟩
theorem isState_none {n : Nat} {bs : List Bool} {t : Bool} (h : ∀ j (hj : j < bs.length), bs[j] ≠ t) : isState n bs t = false := by
  have : bs.any (· == t) = false := by
    rw [List.any_eq_false]
    intro x hx
    obtain ⟨j, hj, rfl⟩ := List.getElem_of_mem hx
    simpa using h j hj
  simp [isState, this]

/-- None of the first k stands where t is. -/
def NoneYet (bs : List Bool) (t : Bool) (k : Nat) : Prop := ∀ j (h : j < bs.length), j < k → bs[j] ≠ t
theorem NoneYet.start (bs : List Bool) (t : Bool) : NoneYet bs t 0 := fun _ _ h => absurd h (by omega)
theorem NoneYet.next {bs : List Bool} {t : Bool} {k : Nat} (h : NoneYet bs t k) (hk : k < bs.length) (hne : bs[k] ≠ t) : NoneYet bs t (k + 1) := fun j hj hlt =>
  (Nat.lt_succ_iff_lt_or_eq.1 hlt).elim (h j hj) (fun e => by subst e; exact hne)
theorem NoneYet.all {bs : List Bool} {t : Bool} {k : Nat} (h : NoneYet bs t k) (hk : bs.length ≤ k) : ∀ j (hj : j < bs.length), bs[j] ≠ t := fun j hj => h j hj (by omega)

/-- What Index hands back: a place from 0 on where t stands, or -1 where it stands nowhere. -/
def IndexPost (bs : List Bool) (t : Bool) (w : World) (e : Ending) (w' : World) : Prop := ∃ r : Int, e = .returned (.int .i64 r) ∧ decide (0 ≤ r) = bs.any (· == t) ∧ w = w'

/-- The cells of a place: eight people, of whom the party's are told, and the torch. -/
def placeCells (bs : List Bool) (t : Bool) : Array Value := #[.bool (bs.getD 0 false), .bool (bs.getD 1 false), .bool (bs.getD 2 false), .bool (bs.getD 3 false), .bool (bs.getD 4 false), .bool (bs.getD 5 false), .bool (bs.getD 6 false), .bool (bs.getD 7 false), .bool t]

theorem place_cells {w : World} {g : Nat} {ty : TypeId} {bs : List Bool} {t : Bool} (h : Whole w g ty (placeCells bs t)) :
    w.cell? ⟨g, 0, none⟩ = some (.bool (bs.getD 0 false)) ∧ w.cell? ⟨g, 1, none⟩ = some (.bool (bs.getD 1 false)) ∧ w.cell? ⟨g, 2, none⟩ = some (.bool (bs.getD 2 false)) ∧ w.cell? ⟨g, 3, none⟩ = some (.bool (bs.getD 3 false)) ∧
    w.cell? ⟨g, 4, none⟩ = some (.bool (bs.getD 4 false)) ∧ w.cell? ⟨g, 5, none⟩ = some (.bool (bs.getD 5 false)) ∧ w.cell? ⟨g, 6, none⟩ = some (.bool (bs.getD 6 false)) ∧ w.cell? ⟨g, 7, none⟩ = some (.bool (bs.getD 7 false)) ∧
    w.cell? ⟨g, 8, none⟩ = some (.bool t) :=
  ⟨(h.cell 0).trans rfl, (h.cell 1).trans rfl, (h.cell 2).trans rfl, (h.cell 3).trans rfl, (h.cell 4).trans rfl, (h.cell 5).trans rfl, (h.cell 6).trans rfl, (h.cell 7).trans rfl, (h.cell 8).trans rfl⟩
theorem place_open {w : World} {g : Nat} {ty : TypeId} {cs : Array Value} (h : Whole w g ty cs) :
    w.frozen? ⟨g, 0, none⟩ = false ∧ w.frozen? ⟨g, 1, none⟩ = false ∧ w.frozen? ⟨g, 2, none⟩ = false ∧ w.frozen? ⟨g, 3, none⟩ = false ∧ w.frozen? ⟨g, 4, none⟩ = false ∧ w.frozen? ⟨g, 5, none⟩ = false ∧ w.frozen? ⟨g, 6, none⟩ = false ∧ w.frozen? ⟨g, 7, none⟩ = false ∧ w.frozen? ⟨g, 8, none⟩ = false :=
  ⟨h.open_ 0, h.open_ 1, h.open_ 2, h.open_ 3, h.open_ 4, h.open_ 5, h.open_ 6, h.open_ 7, h.open_ 8⟩
theorem set_place {w : World} {g B : Nat} {a : World} {v0 v1 v2 v3 v4 v5 v6 v7 v8 : Value} (h : Below B a w) (hg : B ≤ g) :
    Below B a (((((((((w.setCell ⟨g, 0, none⟩ v0).setCell ⟨g, 1, none⟩ v1).setCell ⟨g, 2, none⟩ v2).setCell ⟨g, 3, none⟩ v3).setCell ⟨g, 4, none⟩ v4).setCell ⟨g, 5, none⟩ v5).setCell ⟨g, 6, none⟩ v6).setCell ⟨g, 7, none⟩ v7).setCell ⟨g, 8, none⟩ v8) :=
  below_set (below_set (below_set (below_set (below_set (below_set (below_set (below_set (below_set h hg) hg) hg) hg) hg) hg) hg) hg) hg

theorem size_bool : (Try.prog.info? 4).map (·.size) = some 1 := by kernel_rfl

theorem splice_place (bs : List Bool) (t : Bool) (h : bs.length ≤ 8) : splice (placeCells [] t).toList 0 (bits bs) = (placeCells bs t).toList := by
  match bs, h with
  | [], _ => rfl
  | [_], _ => rfl
  | [_, _], _ => rfl
  | [_, _, _], _ => rfl
  | [_, _, _, _], _ => rfl
  | [_, _, _, _, _], _ => rfl
  | [_, _, _, _, _, _], _ => rfl
  | [_, _, _, _, _, _, _], _ => rfl
  | [_, _, _, _, _, _, _, _], _ => rfl
  | _ :: _ :: _ :: _ :: _ :: _ :: _ :: _ :: _ :: _, h => simp at h

end Go.Proofs.Ytcoagbcleccmmaa
