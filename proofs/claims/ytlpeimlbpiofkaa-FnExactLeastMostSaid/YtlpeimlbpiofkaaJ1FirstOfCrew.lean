/-
  What is proved: some rows of a list of lists of the call's own are one of the call's own. Conditions: none beyond the reading itself.
-/
import Derived.Test.YtlpeimlbpiofkaaJ7FewestOfCrew
set_option linter.unusedSimpArgs false
set_option linter.unusedVariables false
namespace Go.Proofs.Ytlpeimlbpiofkaa
open Go.RowKit

/-- Some of the rows that lie spread lie spread. -/
theorem pairS_free {w : World} {ps : List (Nat × Nat)} {rs : List RowV} (h : FreeRows w ps rs) : (∀ y ∈ rs.zip ps, Fresh w y.2.1 y.2.2 3 y.1.A (nums y.1.xs) ∧ y.1.xs.length = y.1.n ∧ y.1.n ≤ 1048576) ∧ (rs.zip ps).Pairwise (fun a b => a.2.2 ≤ b.2.1 ∨ b.2.2 ≤ a.2.1) := by
  obtain ⟨h1, h2, h3⟩ := h
  refine ⟨fun y hy => ?_, ?_⟩
  · obtain ⟨k, hk, rfl⟩ := List.getElem_of_mem hy
    have hk' : k < rs.length ∧ k < ps.length := by have h9 := hk; rw [List.length_zip] at h9; omega
    have := h2 k rs[k] ps[k] (by simp [hk'.1]) (by simp [hk'.2])
    simpa using this
  · rw [List.pairwise_iff_getElem]
    intro i j hi hj hij
    have hi' : i < rs.length ∧ i < ps.length := by have h9 := hi; rw [List.length_zip] at h9; omega
    have hj' : j < rs.length ∧ j < ps.length := by have h9 := hj; rw [List.length_zip] at h9; omega
    have := h3 i j ps[i] ps[j] (by omega) (by simp [hi'.2]) (by simp [hj'.2])
    simpa using this
theorem ofS_pairs {w : World} {zs : List (RowV × (Nat × Nat))} (h1 : ∀ y ∈ zs, Fresh w y.2.1 y.2.2 3 y.1.A (nums y.1.xs) ∧ y.1.xs.length = y.1.n ∧ y.1.n ≤ 1048576) (h2 : zs.Pairwise (fun a b => a.2.2 ≤ b.2.1 ∨ b.2.2 ≤ a.2.1)) : FreeRows w (zs.map Prod.snd) (zs.map Prod.fst) := by
  refine ⟨by simp, fun k r p hr hp => ?_, fun i j p p' hne hp hp' => ?_⟩
  · rw [List.getElem?_map] at hr hp
    obtain ⟨y, hy, rfl⟩ := Option.map_eq_some_iff.1 hr
    rw [hy] at hp
    obtain rfl : y.2 = p := by simpa using hp
    exact h1 y (List.mem_of_getElem? hy)
  · rw [List.getElem?_map] at hp hp'
    obtain ⟨y, hy, rfl⟩ := Option.map_eq_some_iff.1 hp
    obtain ⟨y', hy', rfl⟩ := Option.map_eq_some_iff.1 hp'
    obtain ⟨hi, rfl⟩ := List.getElem?_eq_some_iff.1 hy
    obtain ⟨hj, rfl⟩ := List.getElem?_eq_some_iff.1 hy'
    rcases Nat.lt_or_gt_of_ne hne with h | h
    · exact List.pairwise_iff_getElem.1 h2 i j hi hj h
    · exact (List.pairwise_iff_getElem.1 h2 j i hj hi h).symm
theorem Heads.chosen {w wr : World} {lo c c' : Nat} {A D : Option Addr} {rs : List RowV} (f : RowV → Bool) (h : Heads w lo A c rs) (hb : Below w.heap.size w wr) (ho : wr.ownsRow w.heap.size 22 1 (.slice D (rs.filter f).length c') (rs.filter f).length (rowVals (rs.filter f))) (hl : lo ≤ w.heap.size) : Heads wr lo D c' (rs.filter f) := by
  obtain ⟨-, ps, hf, hp, -⟩ := h
  obtain ⟨h1, h2⟩ := pairS_free hf
  have hz : ((rs.zip ps).filter (fun y => f y.1)).map Prod.fst = rs.filter f := by
    have h0 : (rs.zip ps).map Prod.fst = rs := by rw [List.map_fst_zip]; rw [hf.1]; exact Nat.le_refl _
    have h6 : rs.filter f = ((rs.zip ps).map Prod.fst).filter f := by rw [h0]
    rw [h6, List.filter_map]
    rfl
  have hfree : FreeRows w (((rs.zip ps).filter (fun y => f y.1)).map Prod.snd) (rs.filter f) := by
    rw [← hz]
    exact ofS_pairs (fun y hy => h1 y (List.mem_filter.1 hy).1) (h2.sublist List.filter_sublist)
  have hps : ∀ p ∈ ((rs.zip ps).filter (fun y => f y.1)).map Prod.snd, p ∈ ps := fun p hp => by
    obtain ⟨y, hy, rfl⟩ := List.mem_map.1 hp
    exact (List.of_mem_zip (List.mem_filter.1 hy).1).2
  refine ⟨own_lower ho hl, _, hfree.below hb, fun p hp' => ⟨(hp p (hps p hp')).1, Nat.le_trans (hp p (hps p hp')).2 hb.size⟩, fun a ha p hp' => .inr ?_⟩
  subst ha
  exact Nat.le_trans (hp p (hps p hp')).2 (ho.lt a.block rfl).1
end Go.Proofs.Ytlpeimlbpiofkaa
