/-
  What is proved: plain facts on a struct of the call's own that is handed back by a call in a statement whose order is open. Conditions: none.
-/
import Derived.Test.YtifaadjbkbdbnaaFirstI
namespace Go.Proofs.Ytifaadjbkbdbnaa
open Go.RowKit

/-- Behind such a statement: the struct lies in block g, its list in blocks from lo on and before hi. -/
def ResMid (ty ety : TypeId) (mk : Option Addr → Nat → Array Value) (xs : List Value) (ok : Bool) (W : World) (v u : Value) (wx : World) : Prop :=
  ∃ (g : Nat) (A : Option Addr) (q lo hi : Nat), v = .pointer (some ⟨g, 0, none⟩) ∧ u = .bool ok ∧ W.heap.size ≤ g ∧ g < wx.heap.size ∧ W.heap.size ≤ lo ∧ (g < lo ∨ hi ≤ g) ∧ hi ≤ wx.heap.size ∧ Whole wx g ty (mk A q) ∧ Fresh wx lo hi ety A xs ∧ Below W.heap.size W wx
theorem ResMid.last {ty ety : TypeId} {mk : Option Addr → Nat → Array Value} {xs : List Value} {ok : Bool} {W w : World} {A : Option Addr} {q lo : Nat} (hc : Below W.heap.size W w) (hl : W.heap.size ≤ lo) (hF : Fresh w lo w.heap.size ety A xs) :
    ResMid ty ety mk xs ok W (.pointer (some ⟨w.heap.size, 0, none⟩)) (.bool ok) (w.alloc (.cells (mk A q) ty)) :=
  ⟨_, A, q, lo, w.heap.size, rfl, rfl, hc.size, by simp, hl, .inr (Nat.le_refl _), by simp, Whole.fresh _ _ _, hF.alloc _, hc.alloc hc.size _⟩
theorem ResMid.first {ty ety : TypeId} {mk : Option Addr → Nat → Array Value} {xs : List Value} {ok : Bool} {W w : World} {A : Option Addr} {q lo g : Nat} {a b c d : Value} (hc : Below W.heap.size W w) (hl : W.heap.size ≤ lo) (hF : Fresh w lo w.heap.size ety A xs) (hg : W.heap.size ≤ g) (hgl : g < lo) (hw : Whole w g ty #[a, b]) (hm : mk A q = #[c, d]) :
    ResMid ty ety mk xs ok W (.pointer (some ⟨g, 0, none⟩)) (.bool ok) ((w.setCell ⟨g, 0, none⟩ c).setCell ⟨g, 1, none⟩ d) := by
  have h := hw.lt
  refine ⟨g, A, q, lo, w.heap.size, rfl, rfl, hg, by simpa [World.setCell] using h, hl, .inl hgl, by simp [World.setCell], ?_, (hF.set_out (.inl hgl)).set_out (.inl hgl), below_set (below_set hc hg) hg⟩
  rw [hm]
  exact (hw.set_ 0 c).set_ 1 d
end Go.Proofs.Ytifaadjbkbdbnaa
