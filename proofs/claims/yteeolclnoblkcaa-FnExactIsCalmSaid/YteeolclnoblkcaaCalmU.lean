/-
  What is proved: contracts of the program's closure that tells calm places, and of calmPlaces, which makes it. Conditions: at most four couples.
-/
import Derived.Test.YteeolclnoblkcaaWithout
import Derived.Test.YteeolclnoblkcaaCalmS
import Derived.Test.YteeolclnoblkcaaLast
import Derived.Laws.EntriesVeiled
namespace Go.Proofs.Yteeolclnoblkcaa
open Go.RowKit

/-- The cells of a place. -/
def place9 (f : Nat → Bool) (t : Bool) : Array Value := #[.bool (f 0), .bool (f 1), .bool (f 2), .bool (f 3), .bool (f 4), .bool (f 5), .bool (f 6), .bool (f 7), .bool t]
theorem place_nine9 (bs : List Bool) (t : Bool) : placeCells bs t = place9 (fun i => bs.getD i false) t := rfl
/-- The first n. -/
def firstN (n i : Nat) : Bool := decide (i < n)
theorem trues_at (n i : Nat) : (trues n).getD i false = firstN n i := by
  unfold firstN
  by_cases h : i < n
  · simp [trues, List.getD_eq_getElem?_getD, List.getElem?_replicate, h]
  · simp [trues, List.getD_eq_getElem?_getD, List.getElem?_replicate, h]
theorem place_trues (n : Nat) (t : Bool) : placeCells (trues n) t = place9 (firstN n) t := by
  simp only [placeCells, place9, trues_at]
/-- The eight cells of a crowd. -/
def Row8 (g : Nat) (f : Nat → Bool) (w : World) : Prop :=
  w.cell? ⟨g, 0, none⟩ = some (.bool (f 0)) ∧ w.cell? ⟨g, 1, none⟩ = some (.bool (f 1)) ∧ w.cell? ⟨g, 2, none⟩ = some (.bool (f 2)) ∧ w.cell? ⟨g, 3, none⟩ = some (.bool (f 3)) ∧
  w.cell? ⟨g, 4, none⟩ = some (.bool (f 4)) ∧ w.cell? ⟨g, 5, none⟩ = some (.bool (f 5)) ∧ w.cell? ⟨g, 6, none⟩ = some (.bool (f 6)) ∧ w.cell? ⟨g, 7, none⟩ = some (.bool (f 7))
theorem row8_of {w : World} {g : Nat} {ty : TypeId} {f : Nat → Bool} {t : Bool} (h : Whole w g ty (place9 f t)) : Row8 g f w :=
  ⟨h.cell 0, h.cell 1, h.cell 2, h.cell 3, h.cell 4, h.cell 5, h.cell 6, h.cell 7⟩

def groupFnV (g1 : Nat) : Value := .func (.func 94) #[] #[.pointer (some ⟨g1, 0, none⟩)]
def calmFnV (g3 g4 : Nat) : Value := .func (.func 98) #[] #[.pointer (some ⟨g3, 0, none⟩), .pointer (some ⟨g4, 0, none⟩)]
/-- What the closure that tells calm places has captured. -/
structure CalmFn (w : World) (k g1 g3 g4 : Nat) : Prop where
  b1 : Whole w g1 3 #[.int .i64 k]
  b3 : Whole w g3 72 #[groupFnV g1]
  b4 : Whole w g4 80 (place9 (firstN (2 * k)) true)
theorem CalmFn.below {w w' : World} {k g1 g3 g4 : Nat} (h : CalmFn w k g1 g3 g4) (hb : Below w.heap.size w w') : CalmFn w' k g1 g3 g4 := ⟨h.b1.below hb, h.b3.below hb, h.b4.below hb⟩
theorem CalmFn.drew {w : World} {k g1 g3 g4 : Nat} (h : CalmFn w k g1 g3 g4) : CalmFn w.drew k g1 g3 g4 := ⟨h.b1, h.b3, h.b4⟩
theorem CalmFn.alloc {w : World} {k g1 g3 g4 : Nat} (h : CalmFn w k g1 g3 g4) (o : Obj) : CalmFn (w.alloc o) k g1 g3 g4 := ⟨h.b1.alloc o, h.b3.alloc o, h.b4.alloc o⟩
theorem CalmFn.c1 {w : World} {k g1 g3 g4 : Nat} (h : CalmFn w k g1 g3 g4) : w.cell? ⟨g1, 0, none⟩ = some (.int .i64 k) := h.b1.cell 0
theorem CalmFn.l1 {w : World} {k g1 g3 g4 : Nat} (h : CalmFn w k g1 g3 g4) : g1 < w.heap.size := h.b1.lt

/-- What the closure reads while it runs. -/
def CalmS (g g1 g3 g4 : Nat) (f fa : Nat → Bool) (w : World) : Prop :=
  w.cell? ⟨g3, 0, none⟩ = some (.func (.func 94) #[] #[.pointer (some ⟨g1, 0, none⟩)]) ∧ Row8 g f w ∧ Row8 g4 fa w
theorem calmS_of {w : World} {k g g1 g3 g4 : Nat} {f : Nat → Bool} {t : Bool} (h : CalmFn w k g1 g3 g4) (hp : Whole w g 80 (place9 f t)) : CalmS g g1 g3 g4 f (firstN (2 * k)) w :=
  ⟨h.b3.cell 0, row8_of hp, row8_of h.b4⟩
theorem calm_out {k : Nat} {f : Nat → Bool} : calm k (fun i => firstN (2 * k) i && !f i) = calm k (fun i => !f i) := calm_congr fun i hi => by simp [firstN, hi]

set_option maxHeartbeats 6400000 in
set_option maxRecDepth 100000 in
theorem calmPlaceFn_any (k g1 g3 g4 : Nat) (f : Nat → Bool) (t : Bool) (w : World) (hk : k ≤ 4) (h : CalmFn w k g1 g3 g4) :
    Calls Try.prog 98 #[.agg (place9 f t), .pointer (some ⟨g3, 0, none⟩), .pointer (some ⟨g4, 0, none⟩)] w fun e w' => e = .returned (.bool (quiet k f)) ∧ Below w.heap.size w w' := by
  have hp := Whole.fresh w 80 (place9 f t)
  have hc := (h.alloc (.cells (place9 f t) 80)).drew
  cases h1 : calm k f
  · have HP := Lib.hid (quiet_no h1)
    have H1 := Lib.hid h1
    clear h1
    unfold place9 at *
    go_enter Try.func98, Try.ntmps98
    go_wp2_with fail
    refine wp_region_held_drew (S := (CalmS w.heap.size g1 g3 g4 f (firstN (2 * k)))) (by kernel_rfl) (calmS_of hc hp.drew) (fun hHeld => ?_)
    refine wpAnyH_take (i := 0) (v := ?_) rfl (by kernel_rfl) (by kernel_rfl) (by kernel_rfl) (fun _ _ _ h => h) (Or.inl ⟨rfl, ?_⟩) hHeld ?_
    rotate_left
    · intro w' hS; obtain ⟨sF, ⟨a0, a1, a2, a3, a4, a5, a6, a7⟩, ⟨b0, b1, b2, b3, b4, b5, b6, b7⟩⟩ := hS; go_simp <;> with_reducible rfl
    simp only [Act.put, List.getElem_toArray, List.getElem_cons_succ, List.getElem_cons_zero, List.setIfInBounds_toArray, List.set_cons_succ, List.set_cons_zero]
    refine wpAnyH_take (i := 1) (v := ?_) rfl (by kernel_rfl) (by kernel_rfl) (by kernel_rfl) (fun _ _ _ h => h) (Or.inl ⟨rfl, ?_⟩) hHeld ?_
    rotate_left
    · intro w' hS; obtain ⟨sF, ⟨a0, a1, a2, a3, a4, a5, a6, a7⟩, ⟨b0, b1, b2, b3, b4, b5, b6, b7⟩⟩ := hS; go_simp <;> with_reducible rfl
    simp only [Act.put, List.getElem_toArray, List.getElem_cons_succ, List.getElem_cons_zero, List.setIfInBounds_toArray, List.set_cons_succ, List.set_cons_zero]
    refine wpAnyH_take (i := 2) (v := ?_) rfl (by kernel_rfl) (by kernel_rfl) (by kernel_rfl) (fun _ _ _ h => h) (Or.inl ⟨rfl, ?_⟩) hHeld ?_
    rotate_left
    · intro w' hS; obtain ⟨sF, ⟨a0, a1, a2, a3, a4, a5, a6, a7⟩, ⟨b0, b1, b2, b3, b4, b5, b6, b7⟩⟩ := hS; go_simp <;> with_reducible rfl
    simp only [Act.put, List.getElem_toArray, List.getElem_cons_succ, List.getElem_cons_zero, List.setIfInBounds_toArray, List.set_cons_succ, List.set_cons_zero]
    refine wpAnyH_ready (rs := [3]) (by kernel_rfl) (by simp) (AllReadyH.cons rfl (fun K hK => ?_) AllReadyH.nil)
    go_simp
    refine (calmClosure_any k g1 f _ hk (by exact hc.c1) (by exact hc.l1)).mono ?_
    rintro e w1 ⟨rfl, hb⟩
    rw [H1.out]
    have ht := below_then (below1 w _).drew hb (by simp)
    have hc1 := hc.below hb
    have hp1 := hp.drew.below hb
    refine hK.out _ _ (calmS_of hc1 hp1) (fun hHeld => ?_)
    clear hK K
    try simp only [Act.put, List.getElem_toArray, List.getElem_cons_succ, List.getElem_cons_zero, List.setIfInBounds_toArray, List.set_cons_succ, List.set_cons_zero]
    refine wpAnyH_take (i := 4) (v := ?_) rfl (by kernel_rfl) (by kernel_rfl) (by kernel_rfl) (fun _ _ _ h => h) (Or.inl ⟨rfl, ?_⟩) hHeld ?_
    rotate_left
    · intro w' hS; obtain ⟨sF, ⟨a0, a1, a2, a3, a4, a5, a6, a7⟩, ⟨b0, b1, b2, b3, b4, b5, b6, b7⟩⟩ := hS; go_simp <;> with_reducible rfl
    simp only [Act.put, List.getElem_toArray, List.getElem_cons_succ, List.getElem_cons_zero, List.setIfInBounds_toArray, List.set_cons_succ, List.set_cons_zero]
    refine wpAnyH_take (i := 5) (v := undef) rfl (by kernel_rfl) (by kernel_rfl) (by kernel_rfl) (fun _ _ _ h => h) (Or.inr ⟨by simp [Region.wanted, yielded], rfl⟩) hHeld ?_
    simp only [Act.put, List.getElem_toArray, List.getElem_cons_succ, List.getElem_cons_zero, List.setIfInBounds_toArray, List.set_cons_succ, List.set_cons_zero]
    refine wpAnyH_take (i := 6) (v := undef) rfl (by kernel_rfl) (by kernel_rfl) (by kernel_rfl) (fun _ _ _ h => h) (Or.inr ⟨by simp [Region.wanted, yielded], rfl⟩) hHeld ?_
    simp only [Act.put, List.getElem_toArray, List.getElem_cons_succ, List.getElem_cons_zero, List.setIfInBounds_toArray, List.set_cons_succ, List.set_cons_zero]
    refine wpAnyH_take (i := 7) (v := undef) rfl (by kernel_rfl) (by kernel_rfl) (by kernel_rfl) (fun _ _ _ h => h) (Or.inr ⟨by simp [Region.wanted, yielded], rfl⟩) hHeld ?_
    simp only [Act.put, List.getElem_toArray, List.getElem_cons_succ, List.getElem_cons_zero, List.setIfInBounds_toArray, List.set_cons_succ, List.set_cons_zero]
    refine wpAnyH_take (i := 8) (v := undef) rfl (by kernel_rfl) (by kernel_rfl) (by kernel_rfl) (fun _ _ _ h => h) (Or.inr ⟨by simp [Region.wanted, yielded], rfl⟩) hHeld ?_
    simp only [Act.put, List.getElem_toArray, List.getElem_cons_succ, List.getElem_cons_zero, List.setIfInBounds_toArray, List.set_cons_succ, List.set_cons_zero]
    refine wpAnyH_take (i := 9) (v := undef) rfl (by kernel_rfl) (by kernel_rfl) (by kernel_rfl) (fun _ _ _ h => h) (Or.inr ⟨by simp [Region.wanted, yielded], rfl⟩) hHeld ?_
    simp only [Act.put, List.getElem_toArray, List.getElem_cons_succ, List.getElem_cons_zero, List.setIfInBounds_toArray, List.set_cons_succ, List.set_cons_zero]
    refine wpAnyH_take (i := 10) (v := undef) rfl (by kernel_rfl) (by kernel_rfl) (by kernel_rfl) (fun _ _ _ h => h) (Or.inr ⟨by simp [Region.wanted, yielded], rfl⟩) hHeld ?_
    simp only [Act.put, List.getElem_toArray, List.getElem_cons_succ, List.getElem_cons_zero, List.setIfInBounds_toArray, List.set_cons_succ, List.set_cons_zero]
    refine wpAnyH_take (i := 11) (v := undef) rfl (by kernel_rfl) (by kernel_rfl) (by kernel_rfl) (fun _ _ _ h => h) (Or.inr ⟨by simp [Region.wanted, yielded], rfl⟩) hHeld ?_
    simp only [Act.put, List.getElem_toArray, List.getElem_cons_succ, List.getElem_cons_zero, List.setIfInBounds_toArray, List.set_cons_succ, List.set_cons_zero]
    refine wpAnyH_take (i := 12) (v := ?_) rfl (by kernel_rfl) (by kernel_rfl) (by kernel_rfl) (fun _ _ _ h => h) (Or.inl ⟨rfl, ?_⟩) hHeld ?_
    rotate_left
    · intro w' hS; obtain ⟨sF, ⟨a0, a1, a2, a3, a4, a5, a6, a7⟩, ⟨b0, b1, b2, b3, b4, b5, b6, b7⟩⟩ := hS; go_simp <;> with_reducible rfl
    simp only [Act.put, List.getElem_toArray, List.getElem_cons_succ, List.getElem_cons_zero, List.setIfInBounds_toArray, List.set_cons_succ, List.set_cons_zero]
    refine wpAnyH_take (i := 13) (v := ?_) rfl (by kernel_rfl) (by kernel_rfl) (by kernel_rfl) (fun _ _ _ h => h) (Or.inl ⟨rfl, ?_⟩) hHeld ?_
    rotate_left
    · intro w' hS; obtain ⟨sF, ⟨a0, a1, a2, a3, a4, a5, a6, a7⟩, ⟨b0, b1, b2, b3, b4, b5, b6, b7⟩⟩ := hS; go_simp <;> with_reducible rfl
    simp only [Act.put, List.getElem_toArray, List.getElem_cons_succ, List.getElem_cons_zero, List.setIfInBounds_toArray, List.set_cons_succ, List.set_cons_zero]
    refine wpAnyH_done (by kernel_rfl) ?_ _
    clear hHeld
    go_wp2
    go_ret
    exact ⟨ret_of (by rw [HP.out]; rfl), ht⟩
  · have HP := Lib.hid (quiet_yes h1)
    have HR := Lib.hid (calm_out (k := k) (f := f))
    have H1 := Lib.hid h1
    clear h1
    unfold place9 at *
    go_enter Try.func98, Try.ntmps98
    go_wp2_with fail
    refine wp_region_held_drew (S := (CalmS w.heap.size g1 g3 g4 f (firstN (2 * k)))) (by kernel_rfl) (calmS_of hc hp.drew) (fun hHeld => ?_)
    refine wpAnyH_take (i := 0) (v := ?_) rfl (by kernel_rfl) (by kernel_rfl) (by kernel_rfl) (fun _ _ _ h => h) (Or.inl ⟨rfl, ?_⟩) hHeld ?_
    rotate_left
    · intro w' hS; obtain ⟨sF, ⟨a0, a1, a2, a3, a4, a5, a6, a7⟩, ⟨b0, b1, b2, b3, b4, b5, b6, b7⟩⟩ := hS; go_simp <;> with_reducible rfl
    simp only [Act.put, List.getElem_toArray, List.getElem_cons_succ, List.getElem_cons_zero, List.setIfInBounds_toArray, List.set_cons_succ, List.set_cons_zero]
    refine wpAnyH_take (i := 1) (v := ?_) rfl (by kernel_rfl) (by kernel_rfl) (by kernel_rfl) (fun _ _ _ h => h) (Or.inl ⟨rfl, ?_⟩) hHeld ?_
    rotate_left
    · intro w' hS; obtain ⟨sF, ⟨a0, a1, a2, a3, a4, a5, a6, a7⟩, ⟨b0, b1, b2, b3, b4, b5, b6, b7⟩⟩ := hS; go_simp <;> with_reducible rfl
    simp only [Act.put, List.getElem_toArray, List.getElem_cons_succ, List.getElem_cons_zero, List.setIfInBounds_toArray, List.set_cons_succ, List.set_cons_zero]
    refine wpAnyH_take (i := 2) (v := ?_) rfl (by kernel_rfl) (by kernel_rfl) (by kernel_rfl) (fun _ _ _ h => h) (Or.inl ⟨rfl, ?_⟩) hHeld ?_
    rotate_left
    · intro w' hS; obtain ⟨sF, ⟨a0, a1, a2, a3, a4, a5, a6, a7⟩, ⟨b0, b1, b2, b3, b4, b5, b6, b7⟩⟩ := hS; go_simp <;> with_reducible rfl
    simp only [Act.put, List.getElem_toArray, List.getElem_cons_succ, List.getElem_cons_zero, List.setIfInBounds_toArray, List.set_cons_succ, List.set_cons_zero]
    refine wpAnyH_ready (rs := [3]) (by kernel_rfl) (by simp) (AllReadyH.cons rfl (fun K hK => ?_) AllReadyH.nil)
    go_simp
    refine (calmClosure_any k g1 f _ hk (by exact hc.c1) (by exact hc.l1)).mono ?_
    rintro e w1 ⟨rfl, hb⟩
    rw [H1.out]
    have ht := below_then (below1 w _).drew hb (by simp)
    have hc1 := hc.below hb
    have hp1 := hp.drew.below hb
    refine hK.out _ _ (calmS_of hc1 hp1) (fun hHeld => ?_)
    clear hK K
    try simp only [Act.put, List.getElem_toArray, List.getElem_cons_succ, List.getElem_cons_zero, List.setIfInBounds_toArray, List.set_cons_succ, List.set_cons_zero]
    refine wpAnyH_take (i := 4) (v := ?_) rfl (by kernel_rfl) (by kernel_rfl) (by kernel_rfl) (fun _ _ _ h => h) (Or.inl ⟨rfl, ?_⟩) hHeld ?_
    rotate_left
    · intro w' hS; obtain ⟨sF, ⟨a0, a1, a2, a3, a4, a5, a6, a7⟩, ⟨b0, b1, b2, b3, b4, b5, b6, b7⟩⟩ := hS; go_simp <;> with_reducible rfl
    simp only [Act.put, List.getElem_toArray, List.getElem_cons_succ, List.getElem_cons_zero, List.setIfInBounds_toArray, List.set_cons_succ, List.set_cons_zero]
    refine wpAnyH_take (i := 5) (v := ?_) rfl (by kernel_rfl) (by kernel_rfl) (by kernel_rfl) (fun _ _ _ h => h) (Or.inl ⟨rfl, ?_⟩) hHeld ?_
    rotate_left
    · intro w' hS; obtain ⟨sF, ⟨a0, a1, a2, a3, a4, a5, a6, a7⟩, ⟨b0, b1, b2, b3, b4, b5, b6, b7⟩⟩ := hS; go_simp <;> with_reducible rfl
    simp only [Act.put, List.getElem_toArray, List.getElem_cons_succ, List.getElem_cons_zero, List.setIfInBounds_toArray, List.set_cons_succ, List.set_cons_zero]
    refine wpAnyH_take (i := 6) (v := ?_) rfl (by kernel_rfl) (by kernel_rfl) (by kernel_rfl) (fun _ _ _ h => h) (Or.inl ⟨rfl, ?_⟩) hHeld ?_
    rotate_left
    · intro w' hS; obtain ⟨sF, ⟨a0, a1, a2, a3, a4, a5, a6, a7⟩, ⟨b0, b1, b2, b3, b4, b5, b6, b7⟩⟩ := hS; go_simp <;> with_reducible rfl
    simp only [Act.put, List.getElem_toArray, List.getElem_cons_succ, List.getElem_cons_zero, List.setIfInBounds_toArray, List.set_cons_succ, List.set_cons_zero]
    refine wpAnyH_take (i := 7) (v := ?_) rfl (by kernel_rfl) (by kernel_rfl) (by kernel_rfl) (fun _ _ _ h => h) (Or.inl ⟨rfl, ?_⟩) hHeld ?_
    rotate_left
    · intro w' hS; obtain ⟨sF, ⟨a0, a1, a2, a3, a4, a5, a6, a7⟩, ⟨b0, b1, b2, b3, b4, b5, b6, b7⟩⟩ := hS; go_simp <;> with_reducible rfl
    simp only [Act.put, List.getElem_toArray, List.getElem_cons_succ, List.getElem_cons_zero, List.setIfInBounds_toArray, List.set_cons_succ, List.set_cons_zero]
    refine wpAnyH_take (i := 8) (v := ?_) rfl (by kernel_rfl) (by kernel_rfl) (by kernel_rfl) (fun _ _ _ h => h) (Or.inl ⟨rfl, ?_⟩) hHeld ?_
    rotate_left
    · intro w' hS; obtain ⟨sF, ⟨a0, a1, a2, a3, a4, a5, a6, a7⟩, ⟨b0, b1, b2, b3, b4, b5, b6, b7⟩⟩ := hS; go_simp <;> with_reducible rfl
    simp only [Act.put, List.getElem_toArray, List.getElem_cons_succ, List.getElem_cons_zero, List.setIfInBounds_toArray, List.set_cons_succ, List.set_cons_zero]
    refine wpAnyH_take (i := 9) (v := ?_) rfl (by kernel_rfl) (by kernel_rfl) (by kernel_rfl) (fun _ _ _ h => h) (Or.inl ⟨rfl, ?_⟩) hHeld ?_
    rotate_left
    · intro w' hS; obtain ⟨sF, ⟨a0, a1, a2, a3, a4, a5, a6, a7⟩, ⟨b0, b1, b2, b3, b4, b5, b6, b7⟩⟩ := hS; go_simp <;> with_reducible rfl
    simp only [Act.put, List.getElem_toArray, List.getElem_cons_succ, List.getElem_cons_zero, List.setIfInBounds_toArray, List.set_cons_succ, List.set_cons_zero]
    refine wpAnyH_ready (rs := [10]) (by kernel_rfl) (by simp) (AllReadyH.cons rfl (fun K hK => ?_) AllReadyH.nil)
    go_simp
    refine (without_any (firstN (2 * k)) f _).mono ?_
    rintro e w2 ⟨rfl, hb⟩
    replace ht := below_then ht hb ht.size
    have hc2 := hc1.below hb
    have hp2 := hp1.below hb
    refine hK.out _ _ (calmS_of hc2 hp2) (fun hHeld => ?_)
    clear hK K
    try simp only [Act.put, List.getElem_toArray, List.getElem_cons_succ, List.getElem_cons_zero, List.setIfInBounds_toArray, List.set_cons_succ, List.set_cons_zero]
    refine wpAnyH_ready (rs := [11]) (by kernel_rfl) (by simp) (AllReadyH.cons rfl (fun K hK => ?_) AllReadyH.nil)
    go_simp
    refine (calmClosure_any k g1 (fun i => firstN (2 * k) i && !f i) _ hk (by exact hc2.c1) (by exact hc2.l1)).mono ?_
    rintro e w3 ⟨rfl, hb⟩
    replace ht := below_then ht hb ht.size
    rw [HR.out]
    refine hK.out _ _ (calmS_of (hc2.below hb) (hp2.below hb)) (fun hHeld => ?_)
    clear hK K
    try simp only [Act.put, List.getElem_toArray, List.getElem_cons_succ, List.getElem_cons_zero, List.setIfInBounds_toArray, List.set_cons_succ, List.set_cons_zero]
    refine wpAnyH_take (i := 12) (v := ?_) rfl (by kernel_rfl) (by kernel_rfl) (by kernel_rfl) (fun _ _ _ h => h) (Or.inl ⟨rfl, ?_⟩) hHeld ?_
    rotate_left
    · intro w' hS; obtain ⟨sF, ⟨a0, a1, a2, a3, a4, a5, a6, a7⟩, ⟨b0, b1, b2, b3, b4, b5, b6, b7⟩⟩ := hS; go_simp <;> with_reducible rfl
    simp only [Act.put, List.getElem_toArray, List.getElem_cons_succ, List.getElem_cons_zero, List.setIfInBounds_toArray, List.set_cons_succ, List.set_cons_zero]
    refine wpAnyH_take (i := 13) (v := ?_) rfl (by kernel_rfl) (by kernel_rfl) (by kernel_rfl) (fun _ _ _ h => h) (Or.inl ⟨rfl, ?_⟩) hHeld ?_
    rotate_left
    · intro w' hS; obtain ⟨sF, ⟨a0, a1, a2, a3, a4, a5, a6, a7⟩, ⟨b0, b1, b2, b3, b4, b5, b6, b7⟩⟩ := hS; go_simp <;> with_reducible rfl
    simp only [Act.put, List.getElem_toArray, List.getElem_cons_succ, List.getElem_cons_zero, List.setIfInBounds_toArray, List.set_cons_succ, List.set_cons_zero]
    refine wpAnyH_done (by kernel_rfl) ?_ _
    clear hHeld
    go_wp2
    go_ret
    exact ⟨ret_of (by rw [HP.out]; rfl), ht⟩
end Go.Proofs.Yteeolclnoblkcaa
