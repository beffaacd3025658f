/-
  What is proved: contracts of a byte written to a strings.Builder of the call's own, in this program's numbers. Conditions: the builder is only written; fewer than 2^47 bytes.
-/
import Derived.Test.YtifaadjbkbdbnaaFirstI
import Derived.Lib.Builder
import Derived.Shelf.Strings.Builder1
namespace Go.Proofs.Ytifaadjbkbdbnaa
open Go.RowKit

theorem info_byte : (Try.prog.info? 5).map (fun i => (i.zero, i.size, i.bytes)) = some (some (.int .u8 0), 1, 1) := by kernel_rfl

theorem own_slice {w : World} {base : Nat} {e : TypeId} {size : Nat} {v : Value} {n : Nat} {xs : List Value} (h : w.ownsRow base e size v (n + 1) xs) : ∃ g cap, v = .slice (some ⟨g, 0, none⟩) (n + 1) cap := by
  obtain ⟨-, ⟨-, h⟩ | ⟨g, cap, -, hv, -⟩⟩ := h
  · omega
  · exact ⟨g, cap, hv⟩
theorem cells_fresh (w : World) (ty : TypeId) (cs : Array Value) : ∀ j u, cs.toList[j]? = some u → (w.alloc (.cells cs ty)).cell? ((⟨w.heap.size, 0, none⟩ : Addr).add j) = some u := fun j u hu => by
  rw [show (⟨w.heap.size, 0, none⟩ : Addr).add j = ⟨w.heap.size, j, none⟩ from by unfold Addr.add; split <;> simp_all, (Whole.fresh w ty cs).cell j]
  simpa using hu

end Go.Proofs.Ytifaadjbkbdbnaa
