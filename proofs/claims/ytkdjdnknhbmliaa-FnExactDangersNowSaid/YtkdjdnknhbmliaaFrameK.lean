/-
  What is proved: how a keep and a bank among a law's arguments, as they come in, are opened. Conditions: none beyond the reading itself.
-/
import Derived.Test.YtkdjdnknhbmliaaFrame2
namespace Go.Proofs.Ytkdjdnknhbmliaa
open Go.ChangeShapes Go.WideShapes Go.ChangeAt Go.RowKit Go.Joins

theorem cells_keep : Try.prog.cellsOf 51 = 3 := by kernel_rfl
theorem cells_bank : Try.prog.cellsOf 59 = 2 := by kernel_rfl

set_option maxRecDepth 100000 in
theorem open_rows {H : Type} {enc : TypeId × Value → H} {W : World} {fuel : Nat} {c : Value} {y : DataW H × List MemPlace} (h : DataW.trod enc Try.prog W 0 (fun _ => true) true fuel 28 [c] = some y) :
    ∃ (A : Option Addr) (n q : Nat) (rs : List RowV), c = .slice A n q ∧ Grid W A rs ∧ rs.length = n ∧ n ≤ 9223372036854775807 := by
  rcases Go.Deep.open_int_rows Try.underlying28 Try.underlying40 Try.underlying3 (by kernel_rfl) (by kernel_rfl) h with ⟨hcs, _⟩ | ⟨a, len, cap, A, L, C, Z, hcs, _, hl, hm, _, hrow⟩
  · simp only [List.cons.injEq, and_true] at hcs
    exact ⟨none, 0, 0, [], hcs, ⟨.inl rfl, fun r hr => by cases hr⟩, rfl, by omega⟩
  · simp only [List.cons.injEq, and_true] at hcs
    unfold maxLen at hm
    refine ⟨some a, len, cap, (List.range len).map fun r => ⟨A r, L r, C r, (Z r).take (L r)⟩, hcs, ⟨?_, fun r hr => ?_⟩, by simp, by omega⟩
    · have h1 := holds_fn (f := fun r => Value.slice (A r) (L r) (C r)) hl (fun i hi => (hrow i hi).1)
      simpa [rowVals, RowV.val, Function.comp_def] using h1
    · simp only [List.mem_map, List.mem_range] at hr
      obtain ⟨j, hj, rfl⟩ := hr
      obtain ⟨-, hLC, hCm, hZ, -, hnone, hsome⟩ := hrow j (by omega)
      unfold maxLen at hCm
      refine ⟨?_, by simp; omega, by show L j ≤ _; omega⟩
      show Holds W (A j) (nums ((Z j).take (L j)))
      cases hA : A j with
      | none =>
        have h0 := hnone hA
        have : Z j = [] := List.eq_nil_of_length_eq_zero (by omega)
        rw [this]
        exact .inl (by simp [nums])
      | some a' => exact holds_row (by omega) (fun i hi => (hsome a' hA).2 i (by omega))

set_option maxRecDepth 100000 in
theorem open_bank {H : Type} {enc : TypeId × Value → H} {W : World} {base : Nat} {v : Value} {d : DataW H} {p : List MemPlace} (hv : Value.okWide Try.prog W .any base 59 v)
    (h : DataW.Trod enc Try.prog W 0 (fun _ => true) true 59 v d p) :
    ∃ (A : Option Addr) (n c : Nat) (xs : List Bool) (s : Bool), v = .agg #[.slice A n c, .bool s] ∧ Holds W A (bits xs) ∧ xs.length = n ∧ n ≤ 9223372036854775807 := by
  obtain ⟨c0, c1, y0, y1, m, rfl, rfl, rfl, hy0, hy1⟩ := open_agg2 Try.underlying59 (by kernel_rfl) cells_bank hv h
  obtain ⟨s, e1, -⟩ := DataW.trod_bool Try.underlying4 hy1
  simp only [List.cons.injEq, and_true] at e1
  obtain ⟨A, n, c, xs, rfl, hA, hx, hn⟩ := open_bits hy0
  exact ⟨A, n, c, xs, s, by rw [e1], hA, hx, hn⟩

set_option maxRecDepth 100000 in
theorem open_keep {H : Type} {enc : TypeId × Value → H} {W : World} {base : Nat} {v : Value} {d : DataW H} {p : List MemPlace} (hv : Value.okWide Try.prog W .any base 51 v)
    (h : DataW.Trod enc Try.prog W 0 (fun _ => true) true 51 v d p) :
    ∃ (k : Int) (A : Option Addr) (n c : Nat) (rs : List RowV) (s : Int), v = .agg #[.int .i64 k, .slice A n c, .int .i64 s] ∧ Grid W A rs ∧ rs.length = n ∧ n ≤ 9223372036854775807 := by
  obtain ⟨c0, c1, c2, y0, y1, y2, m, rfl, rfl, rfl, hy0, hy1, hy2⟩ := open_agg3 Try.underlying51 (by kernel_rfl) cells_keep hv h
  obtain ⟨k, e0, -, -⟩ := DataW.trod_int Try.underlying3 hy0
  obtain ⟨s, e2, -, -⟩ := DataW.trod_int Try.underlying3 hy2
  simp only [List.cons.injEq, and_true] at e0 e2
  obtain ⟨A, n, c, rs, rfl, hA, hx, hn⟩ := open_rows hy1
  exact ⟨k, A, n, c, rs, s, by rw [e0, e2], hA, hx, hn⟩
end Go.Proofs.Ytkdjdnknhbmliaa
