/-
  What is proved: how a night and a camp among a law's arguments, as they come in, are opened. Conditions: none beyond the reading itself.
-/
import Derived.Test.YtifaadjbkbdbnaaFrame
namespace Go.Proofs.Ytifaadjbkbdbnaa
open Go.ChangeShapes Go.WideShapes Go.ChangeAt Go.RowKit Go.Joins

theorem cells_night : Try.prog.cellsOf 45 = 3 := by kernel_rfl
theorem cells_camp : Try.prog.cellsOf 53 = 2 := by kernel_rfl

set_option maxRecDepth 100000 in
theorem open_night {H : Type} {enc : TypeId × Value → H} {W : World} {base : Nat} {v : Value} {d : DataW H} {p : List MemPlace} (hv : Value.okWide Try.prog W .any base 45 v)
    (h : DataW.Trod enc Try.prog W 0 (fun _ => true) true 45 v d p) :
    ∃ (A : Option Addr) (n c : Nat) (xs : List Int) (s t : Int), v = .agg #[.slice A n c, .int .i64 s, .int .i64 t] ∧ Holds W A (nums xs) ∧ xs.length = n ∧ n ≤ 9223372036854775807 := by
  obtain ⟨c0, c1, c2, y0, y1, y2, m, rfl, rfl, rfl, hy0, hy1, hy2⟩ := open_agg3 Try.underlying45 (by kernel_rfl) cells_night hv h
  obtain ⟨s, e1, -, -⟩ := DataW.trod_int Try.underlying3 hy1
  obtain ⟨t, e2, -, -⟩ := DataW.trod_int Try.underlying3 hy2
  simp only [List.cons.injEq, and_true] at e1 e2
  obtain ⟨A, n, c, xs, rfl, hA, hx, hn⟩ := open_nums hy0
  exact ⟨A, n, c, xs, s, t, by rw [e1, e2], hA, hx, hn⟩

set_option maxRecDepth 100000 in
theorem open_camp {H : Type} {enc : TypeId × Value → H} {W : World} {base : Nat} {v : Value} {d : DataW H} {p : List MemPlace} (hv : Value.okWide Try.prog W .any base 53 v)
    (h : DataW.Trod enc Try.prog W 0 (fun _ => true) true 53 v d p) :
    ∃ (A : Option Addr) (n c : Nat) (xs : List Bool) (s : Int), v = .agg #[.slice A n c, .int .i64 s] ∧ Holds W A (bits xs) ∧ xs.length = n ∧ n ≤ 9223372036854775807 := by
  obtain ⟨c0, c1, y0, y1, m, rfl, rfl, rfl, hy0, hy1⟩ := open_agg2 Try.underlying53 (by kernel_rfl) cells_camp hv h
  obtain ⟨s, e1, -, -⟩ := DataW.trod_int Try.underlying3 hy1
  simp only [List.cons.injEq, and_true] at e1
  obtain ⟨A, n, c, xs, rfl, hA, hx, hn⟩ := open_bits hy0
  exact ⟨A, n, c, xs, s, by rw [e1], hA, hx, hn⟩
end Go.Proofs.Ytifaadjbkbdbnaa
