/-
  What is proved: plain facts on lists of crowds that the call itself makes. Conditions: none.
-/
import Derived.Test.YtifaadjbkbdbnaaCanI
namespace Go.Proofs.Ytifaadjbkbdbnaa
open Go.RowKit

/-- The cells of the trips' own list. -/
def crowdsOf (ls : List (List Int)) : List Value := ls.flatMap fun l => (crowdCells l).toList
theorem crowdsOf_len (ls : List (List Int)) : (crowdsOf ls).length = ls.length * 8 := by
  induction ls with
  | nil => rfl
  | cons l ls ih => simp only [crowdsOf, List.flatMap_cons, List.length_append] at ih ⊢; rw [ih]; simp [crowdCells]; omega
theorem crowdsOf_next {ls : List (List Int)} {k : Nat} (hk : k < ls.length) : crowdsOf (ls.take k) ++ (crowdCells ls[k]).toList = crowdsOf (ls.take (k + 1)) := by
  rw [List.take_succ_eq_append_getElem hk]
  simp only [crowdsOf, List.flatMap_append, List.flatMap_cons, List.flatMap_nil, List.append_nil]
theorem info_crowd : (Try.prog.info? 92).map (fun i => (i.zero, i.size, i.bytes)) = some (some (.agg #[.bool false, .bool false, .bool false, .bool false, .bool false, .bool false, .bool false, .bool false]), 8, 8) := by kernel_rfl

theorem ownsRow_below {w w' : World} {base : Nat} {e : TypeId} {size : Nat} {v : Value} {n : Nat} {xs : List Value} (h : w.ownsRow base e size v n xs) (hb : Below w.heap.size w w') : w'.ownsRow base e size v n xs := by
  obtain ⟨hl, h | ⟨g, cap, cur, hv, hg, hh, r⟩⟩ := h
  · exact ⟨hl, .inl h⟩
  · exact ⟨hl, .inr ⟨g, cap, cur, hv, hg, (hb.block g (Array.getElem?_eq_some_iff.1 hh).1).trans hh, r⟩⟩
theorem ownsRow_only {w w' : World} {base g : Nat} {e : TypeId} {size : Nat} {v : Value} {n : Nat} {xs : List Value} (h : w.ownsRow base e size v n xs) (ho : Only g w w') (hg : g < base) : w'.ownsRow base e size v n xs := by
  obtain ⟨hl, h | ⟨q, cap, cur, hv, hq, hh, r⟩⟩ := h
  · exact ⟨hl, .inl h⟩
  · exact ⟨hl, .inr ⟨q, cap, cur, hv, hq, (ho.block q (by omega)).trans hh, r⟩⟩
theorem own_form {w : World} {base : Nat} {e : TypeId} {size : Nat} {v : Value} {n : Nat} {xs : List Value} (h : w.ownsRow base e size v (n + 1) xs) : ∃ g cap, v = .slice (some ⟨g, 0, none⟩) (n + 1) cap := by
  obtain ⟨-, ⟨-, h⟩ | ⟨g, cap, -, hv, -⟩⟩ := h
  · omega
  · exact ⟨g, cap, hv⟩
theorem cells_new (w : World) (ty : TypeId) (cs : Array Value) : ∀ j u, cs.toList[j]? = some u → (w.alloc (.cells cs ty)).cell? ((⟨w.heap.size, 0, none⟩ : Addr).add j) = some u := fun j u hu => by
  rw [show (⟨w.heap.size, 0, none⟩ : Addr).add j = ⟨w.heap.size, j, none⟩ from by unfold Addr.add; split <;> simp_all, (Whole.fresh w ty cs).cell j]
  simpa using hu
theorem crowd_ones (l : List Int) : ∀ u ∈ (crowdCells l).toList, u.oneCell' = true := by
  have h := crowd_one l
  rw [Array.all_eq_true_iff_forall_mem] at h
  exact fun u hu => h u (by simpa using hu)
end Go.Proofs.Ytifaadjbkbdbnaa
