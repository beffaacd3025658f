/-
  What is proved: contracts of the model's and the program's tests of a trip in a state. Conditions: the arguments are read as they lie; at most eight people.
-/
import Derived.Test.YtifaadjbkbdbnaaTripT
namespace Go.Proofs.Ytifaadjbkbdbnaa
open Go.RowKit

/-- All people of a list stand where t is. -/
def allAt (bs : List Bool) (t : Bool) (l : List Int) : Bool := l.all fun k => bs.getD k.toNat false == t
theorem allAt_no {bs : List Bool} {t : Bool} {l : List Int} {k : Nat} (hk : k < l.length) (h : bs.getD (l[k]).toNat false ≠ t) : allAt bs t l = false := by
  rw [allAt, List.all_eq_false]
  exact ⟨l[k], List.getElem_mem hk, by simpa using h⟩
theorem allAt_yes {bs : List Bool} {t : Bool} {l : List Int} (h : ∀ j (hj : j < l.length), bs.getD (l[j]).toNat false = t) : allAt bs t l = true := by
  rw [allAt, List.all_eq_true]
  intro x hx
  obtain ⟨j, hj, rfl⟩ := List.getElem_of_mem hx
  simpa using h j hj
/-- Can the people of a list cross? -/
noncomputable def canGo (n : Nat) (s : Int) (bs : List Bool) (t : Bool) (l : List Int) : Bool := isTrip n s l && allAt bs t l
def AtTo (bs : List Bool) (t : Bool) (l : List Int) (k : Nat) : Prop := ∀ j (h : j < l.length), j < k → bs.getD (l[j]).toNat false = t

set_option maxHeartbeats 800000 in
theorem paAsked_any (A B : Option Addr) (n c m d : Nat) (xs : List Int) (bs : List Bool) (s : Int) (t : Bool) (w : World) (hA : Holds w A (nums xs)) (hB : Holds w B (bits bs)) (hx : xs.length = n) (hy : bs.length = m) (hn : n ≤ 9223372036854775807) (hm : m ≤ 9223372036854775807) :
    Calls Try.prog 68 #[.agg #[.slice A n c, .int .i64 s], .agg #[.slice B m d, .bool t]] w fun e w' => e = .returned (.bool (isParty xs s && isState n bs t)) ∧ Below w.heap.size w w' := by
  have HX := Lib.hid hx
  have HY := Lib.hid hy
  clear hx hy
  have hA2 := (hA.alloc (.cells #[.slice A n c, .int .i64 s] 33)).alloc (.cells #[.slice B m d, .bool t] 35)
  have hB2 := (hB.alloc (.cells #[.slice A n c, .int .i64 s] 33)).alloc (.cells #[.slice B m d, .bool t] 35)
  have h0 := (Whole.fresh w 33 #[.slice A n c, .int .i64 s]).alloc (.cells #[.slice B m d, .bool t] 35)
  have h1 := Whole.fresh (w.alloc (.cells #[.slice A n c, .int .i64 s] 33)) 35 #[.slice B m d, .bool t]
  rw [World.size_alloc] at h1
  cases hp : isParty xs s
  all_goals
    have HP := Lib.hid hp
    clear hp
    go_enter Try.func68, Try.ntmps68
    go_wp2_with fail
    refine (paGood_any A n c xs s _ hA2 HX.out hn).mono ?_
    rintro e w1 ⟨rfl, hb1⟩
    rw [HP.out]
    obtain ⟨c0, c1, -, -⟩ := (h0.below hb1).two
    obtain ⟨d0, d1, -, -⟩ := (h1.below hb1).two
    have hB3 := hB2.below hb1
    have hb1' := below_then (below2 w _ _) hb1 (by simp; omega)
    clear h0 h1 hb1 hA2 hB2
  · go_wp2
    go_ret
    exact ⟨rfl, hb1'⟩
  · go_wp2_with fail
    refine (paState_any A B n c m d bs s t _ hB3 HY.out hm).mono ?_
    rintro e w2 ⟨rfl, hb2⟩
    go_wp2
    go_ret
    exact ⟨rfl, below_then hb1' hb2 hb1'.size⟩

end Go.Proofs.Ytifaadjbkbdbnaa
