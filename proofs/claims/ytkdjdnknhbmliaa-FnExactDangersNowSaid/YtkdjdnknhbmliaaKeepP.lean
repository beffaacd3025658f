/-
  What is proved: plain facts on keeps: dangers, their order, the dangers in a bank. Conditions: none.
-/
import Derived.Test.YtkdjdnknhbmliaaCrowd
namespace Go.Proofs.Ytkdjdnknhbmliaa
open Go.RowKit

/-- A danger of two of so many things. -/
def IsDg (k : Int) (d : List Int) : Prop := d.length = 2 ∧ 0 ≤ d.getD 0 0 ∧ d.getD 0 0 < d.getD 1 0 ∧ d.getD 1 0 < k
/-- A danger comes before another one. -/
def BefD (a b : List Int) : Prop := a.getD 0 0 < b.getD 0 0 ∨ (a.getD 0 0 = b.getD 0 0 ∧ a.getD 1 0 < b.getD 1 0)
def DgStep (k : Int) (ds : List (List Int)) (j : Nat) : Prop := IsDg k (ds.getD j []) ∧ (j = 0 ∨ BefD (ds.getD (j - 1) []) (ds.getD j []))
def DgTo (k : Int) (ds : List (List Int)) (j : Nat) : Prop := ∀ i, i < j → DgStep k ds i
noncomputable def keepOk (k s : Int) (ds : List (List Int)) : Bool := by
  classical
  exact decide ((0 ≤ k ∧ k ≤ 8 ∧ 0 ≤ s ∧ s ≤ 8) ∧ DgTo k ds ds.length)
theorem keepOk_iff {k s : Int} {ds : List (List Int)} : keepOk k s ds = true ↔ (0 ≤ k ∧ k ≤ 8 ∧ 0 ≤ s ∧ s ≤ 8) ∧ DgTo k ds ds.length := by
  classical
  simp only [keepOk, decide_eq_true_eq]
theorem keepOk_out {k s : Int} {ds : List (List Int)} (h : ¬ (0 ≤ k ∧ k ≤ 8 ∧ 0 ≤ s ∧ s ≤ 8)) : keepOk k s ds = false := by
  cases e : keepOk k s ds
  · rfl
  · exact absurd (keepOk_iff.1 e).1 h
theorem keepOk_no {k s : Int} {ds : List (List Int)} {j : Nat} (hj : j < ds.length) (h : ¬ DgStep k ds j) : keepOk k s ds = false := by
  cases e : keepOk k s ds
  · rfl
  · exact absurd ((keepOk_iff.1 e).2 j hj) h
theorem keepOk_yes {k s : Int} {ds : List (List Int)} {j : Nat} (h : 0 ≤ k ∧ k ≤ 8 ∧ 0 ≤ s ∧ s ≤ 8) (hs : DgTo k ds j) (hj : ds.length ≤ j) : keepOk k s ds = true :=
  keepOk_iff.2 ⟨h, fun i hi => hs i (by omega)⟩
theorem DgTo.start (k : Int) (ds : List (List Int)) : DgTo k ds 0 := fun _ h => absurd h (by omega)
theorem DgTo.next {k : Int} {ds : List (List Int)} {j : Nat} (h : DgTo k ds j) (hs : DgStep k ds j) : DgTo k ds (j + 1) := fun i hi =>
  (Nat.lt_succ_iff_lt_or_eq.1 hi).elim (h i) (fun e => e ▸ hs)
theorem rising_dg {k : Int} {d : List Int} (hl : d.length = 2) : rising d (k - 1) = true ↔ IsDg k d := by
  constructor
  · intro h
    have hs := rising_steps h
    have h0 := hs 0 (by omega)
    have h1 := hs 1 (by omega)
    obtain ⟨a0, a1, -⟩ := h0
    obtain ⟨b0, b1, b2⟩ := h1
    refine ⟨hl, a0, ?_, by omega⟩
    rcases b2 with b2 | b2
    · cases b2
    · exact b2
  · rintro ⟨-, h0, h1, h2⟩
    refine rising_yes (k := 2) (fun j hj => ?_) (by omega)
    have : j = 0 ∨ j = 1 := by omega
    rcases this with rfl | rfl
    · exact ⟨h0, by omega, .inl rfl⟩
    · exact ⟨by omega, by omega, .inr h1⟩
theorem dg_at {k s : Int} {ds : List (List Int)} (h : keepOk k s ds = true) {j : Nat} (hj : j < ds.length) : IsDg k ds[j] := by
  have := ((keepOk_iff.1 h).2 j hj).1
  simpa [List.getD_eq_getElem?_getD, List.getElem?_eq_getElem hj] using this
/-- Both things of a danger are where the keeper is not. -/
def leftBy (bs : List Bool) (t : Bool) (d : List Int) : Bool := (bs.getD (d.getD 0 0).toNat false != t) && (bs.getD (d.getD 1 0).toNat false != t)
/-- The dangers in a bank. -/
def nowOf (bs : List Bool) (t : Bool) (ds : List (List Int)) : List (List Int) := ds.filter (leftBy bs t)
theorem nowOf_len (bs : List Bool) (t : Bool) (ds : List (List Int)) : (nowOf bs t ds).length ≤ ds.length := List.length_filter_le _ _
/-- A keep and a bank of it. -/
noncomputable def asked (k s : Int) (ds : List (List Int)) (bs : List Bool) : Bool := keepOk k s ds && decide ((bs.length : Int) = k)
theorem asked_parts {k s : Int} {ds : List (List Int)} {bs : List Bool} (h : asked k s ds bs = true) : keepOk k s ds = true ∧ (bs.length : Int) = k := by
  simpa [asked] using h
end Go.Proofs.Ytkdjdnknhbmliaa
