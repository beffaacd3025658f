/-
  What is proved: contracts of the program's calmPlaces, of its place of a company's state, and of its IsCalm. Conditions: the arguments are read as they lie.
-/
import Derived.Test.YteeolclnoblkcaaCalmU
import Derived.Test.YteeolclnoblkcaaCalmT
namespace Go.Proofs.Yteeolclnoblkcaa
open Go.RowKit

def CalmFnPost (k : Nat) (w : World) (e : Ending) (w' : World) : Prop :=
  ∃ g1 g3 g4, e = .returned (calmFnV g3 g4) ∧ CalmFn w' k g1 g3 g4 ∧ Below w.heap.size w w'

set_option maxHeartbeats 1600000 in
theorem calmPlaces_any (k : Nat) (w : World) (hk : k ≤ 4) :
    Calls Try.prog 66 #[.int .i64 k] w (CalmFnPost k w) := by
  have hmf : ∀ (fn : Fn) (first cap : Array Value) (w : World), (Instr.makeFunc fn first cap).run Try.prog w = .ok (.func fn first cap) w := fun _ _ _ _ => rfl
  have h0 := Whole.fresh w 3 #[.int .i64 k]
  have HT := Lib.hid (place_trues (2 * k) true)
  go_enter Try.func66, Try.ntmps66
  go_wp2_with fail
  refine (calmGroups_any _ _).mono ?_
  rintro e w' ⟨rfl, rfl⟩
  go_wp2_with fail
  have he := everybodyOver_any (2 * k) (w.alloc (.cells #[.int .i64 k] 3)) (by omega)
  rw [show ((2 * k : Nat) : Int) = 2 * (k : Int) by omega] at he
  refine he.mono ?_
  clear he
  rintro e w1 ⟨rfl, hb⟩
  rw [HT.out]
  have ht := below_then (below1 w _) hb (by simp)
  have h1 := h0.below hb
  have hs1 : w.heap.size < w1.heap.size := h1.lt
  clear hb h0
  unfold place9
  go_wp2
  go_ret
  have h4 := Whole.fresh (w1.alloc (.cells #[groupFnV w.heap.size] 72)) 80 (place9 (firstN (2 * k)) true)
  rw [World.size_alloc] at h4
  exact ⟨w.heap.size, w1.heap.size, w1.heap.size + 1, rfl, ⟨(h1.alloc _).alloc _, (Whole.fresh w1 72 #[groupFnV w.heap.size]).alloc _, h4⟩, (ht.alloc (by omega) _).alloc (by simp; omega) _⟩

/-- What companyPlace hands back. -/
def CPlacePost (a b : Int) (bs : List Bool) (t : Bool) (w : World) (e : Ending) (w' : World) : Prop :=
  ((isPlace a b bs t = true ∧ e = .returned (.tuple #[.agg (placeCells bs t), .bool true])) ∨ (isPlace a b bs t = false ∧ e = .returned (.tuple #[.agg (placeCells [] false), .bool false]))) ∧ Below w.heap.size w w'

set_option maxHeartbeats 1600000 in
theorem companyPlace_any (a b : Int) (B : Option Addr) (m d : Nat) (bs : List Bool) (t : Bool) (w : World) (hB : Holds w B (bits bs)) (hy : bs.length = m) (hm : m ≤ 9223372036854775807) :
    Calls Try.prog 65 #[.agg #[.int .i64 a, .int .i64 b], .agg #[.slice B m d, .bool t]] w (CPlacePost a b bs t w) := by
  have HY := Lib.hid hy
  have hB2 := ((hB.alloc (.cells #[.int .i64 a, .int .i64 b] 25)).alloc (.cells #[.slice B m d, .bool t] 39)).alloc (.cells (placeCells [] false) 80)
  have h0 := ((Whole.fresh w 25 #[.int .i64 a, .int .i64 b]).alloc (.cells #[.slice B m d, .bool t] 39)).alloc (.cells (placeCells [] false) 80)
  have h1 := (Whole.fresh (w.alloc (.cells #[.int .i64 a, .int .i64 b] 25)) 39 #[.slice B m d, .bool t]).alloc (.cells (placeCells [] false) 80)
  have h2 := Whole.fresh ((w.alloc (.cells #[.int .i64 a, .int .i64 b] 25)).alloc (.cells #[.slice B m d, .bool t] 39)) 80 (placeCells [] false)
  simp only [World.size_alloc] at h1 h2
  cases hp : isCo a b
  · have HP := Lib.hid (place_no (bs := bs) (t := t) hp)
    have HPP := Lib.hid hp
    clear hp hy
    go_enter Try.func65, Try.ntmps65
    go_wp2_with fail
    refine (isCompany_any a b _).mono ?_
    rintro e w1 ⟨rfl, hb1⟩
    rw [HPP.out]
    have ht := below_then (below3 w _ _ _) hb1 (by simp; omega)
    have hr := h2.below hb1
    obtain ⟨r0, r1, r2, r3, r4, r5, r6, r7, r8⟩ := place_cells hr
    obtain ⟨f0, f1, f2, f3, f4, f5, f6, f7, f8⟩ := place_open hr
    clear h0 h1 h2 hb1 hB2
    go_wp2
    refine bodyPost_ret (v := .tuple #[.agg (placeCells [] false), .bool false]) (by simp [results, Try.results65, go_sem, r0, r1, r2, r3, r4, r5, r6, r7, r8, placeCells]) rfl ⟨.inr ⟨HP.out, rfl⟩, ?_⟩
    exact set_place ht (by omega)
  · have hb4 := isCo_iff.1 hp
    obtain ⟨k, rfl⟩ := Int.eq_ofNat_of_zero_le (show 0 ≤ a by omega)
    have hk : k ≤ 4 := by omega
    have HPP : Hid (isCo k b = true) := hp
    cases hst : isState (2 * k) bs t
    all_goals
      have HST := Lib.hid hst
      have HP : Hid (isPlace k b bs t = _) := (place_on hp).trans hst
      clear hp hst hy hb4
      go_enter Try.func65, Try.ntmps65
      go_wp2_with fail
      refine (isCompany_any k b _).mono ?_
      rintro e w1 ⟨rfl, hb1⟩
      rw [HPP.out]
      have ht := below_then (below3 w _ _ _) hb1 (by simp; omega)
      have hr := h2.below hb1
      have hB3 := hB2.below hb1
      obtain ⟨c0, c1, -, -⟩ := (h0.below hb1).two
      obtain ⟨d0, d1, -, -⟩ := (h1.below hb1).two
      clear h0 h1 h2 hb1 hB2
      go_wp2_with fail
    · have hpo := placeOf_no B (2 * k) m d bs t w1 hB3 HY.out hm HST.out
      rw [show ((2 * k : Nat) : Int) = 2 * (k : Int) by omega] at hpo
      refine hpo.mono ?_
      clear hpo
      rintro e w2 ⟨rfl, hb⟩
      replace ht := below_then ht hb ht.size
      replace hr := hr.below hb
      obtain ⟨r0, r1, r2, r3, r4, r5, r6, r7, r8⟩ := place_cells hr
      obtain ⟨f0, f1, f2, f3, f4, f5, f6, f7, f8⟩ := place_open hr
      clear hb c0 c1 d0 d1
      unfold placeCells
      go_wp2
      refine bodyPost_ret (v := .tuple #[.agg (placeCells [] false), .bool false]) (by simp [results, Try.results65, go_sem, r0, r1, r2, r3, r4, r5, r6, r7, r8, placeCells]) rfl ⟨.inr ⟨HP.out, rfl⟩, ?_⟩
      exact set_place ht (by omega)
    · have hpo := placeOf_yes B (2 * k) m d bs t w1 hB3 HY.out (by omega) HST.out
      rw [show ((2 * k : Nat) : Int) = 2 * (k : Int) by omega] at hpo
      refine hpo.mono ?_
      clear hpo
      rintro e w2 ⟨rfl, hb⟩
      replace ht := below_then ht hb ht.size
      replace hr := hr.below hb
      obtain ⟨r0, r1, r2, r3, r4, r5, r6, r7, r8⟩ := place_cells hr
      obtain ⟨f0, f1, f2, f3, f4, f5, f6, f7, f8⟩ := place_open hr
      clear hb c0 c1 d0 d1
      unfold placeCells
      go_wp2
      refine bodyPost_ret (v := .tuple #[.agg (placeCells bs t), .bool true]) (by simp [results, Try.results65, go_sem, r0, r1, r2, r3, r4, r5, r6, r7, r8, placeCells]) rfl ⟨.inl ⟨HP.out, rfl⟩, ?_⟩
      exact set_place ht (by omega)

/-- What IsCalm reads while it asks. -/
def CIs (g h : Nat) (a b : Int) (f : Nat → Bool) (t : Bool) (w : World) : Prop := Box1 g (.int .i64 a) (.int .i64 b) w ∧ Row8 h f w ∧ w.cell? ⟨h, 8, none⟩ = some (.bool t)
theorem cis_of {w : World} {g h : Nat} {a b : Int} {f : Nat → Bool} {t : Bool} {y z : TypeId} (h1 : Whole w g y #[.int .i64 a, .int .i64 b]) (h2 : Whole w h z (place9 f t)) : CIs g h a b f t w := ⟨box1_of h1, row8_of h2, h2.cell 8⟩

set_option maxHeartbeats 6400000 in
set_option maxRecDepth 100000 in
theorem implIsCalm_any (a b : Int) (B : Option Addr) (m d : Nat) (bs : List Bool) (t : Bool) (w : World) (hB : Holds w B (bits bs)) (hy : bs.length = m) (hm : m ≤ 9223372036854775807) :
    Calls Try.prog 25 #[.agg #[.int .i64 a, .int .i64 b], .agg #[.slice B m d, .bool t]] w fun e w' => e = .returned (.tuple #[.bool (calmIn a b bs t), .bool (isPlace a b bs t)]) ∧ Below w.heap.size w w' := by
  have hB2 := (hB.alloc (.cells #[.int .i64 a, .int .i64 b] 25)).alloc (.cells #[.slice B m d, .bool t] 39)
  have hc := (Whole.fresh w 25 #[.int .i64 a, .int .i64 b]).alloc (.cells #[.slice B m d, .bool t] 39)
  have HY := Lib.hid hy
  clear hy
  go_enter Try.func25, Try.ntmps25
  go_wp2_with fail
  refine (companyPlace_any a b B m d bs t _ hB2 HY.out hm).mono ?_
  rintro e w1 ⟨⟨hp, rfl⟩ | ⟨hp, rfl⟩, hb⟩
  · have HP := Lib.hid hp
    obtain ⟨k, rfl, hk1, hk4, hb1, hb4, -, -, -⟩ := place_co hp
    have HC := Lib.hid (calmIn_yes hp)
    have ht := below_then (below2 w _ _) hb (by simp; omega)
    have hc1 := (hc.below hb).alloc (.cells (placeCells bs t) 80)
    have hp1 := Whole.fresh w1 80 (placeCells bs t)
    replace ht := ht.alloc ht.size (.cells (placeCells bs t) 80)
    clear hp hb hc hB2
    rw [place_nine9] at hc1 hp1 ht ⊢
    unfold place9 at *
    go_wp2_with fail
    refine wp_region_held_drew (S := (CIs w.heap.size w1.heap.size k b (fun i => bs.getD i false) t)) (by kernel_rfl) (cis_of hc1.drew hp1.drew) (fun hHeld => ?_)
    refine wpAnyH_take (i := 0) (v := ?_) rfl (by kernel_rfl) (by kernel_rfl) (by kernel_rfl) (fun _ _ _ h => h) (Or.inl ⟨rfl, ?_⟩) hHeld ?_
    rotate_left
    · intro w' hS; obtain ⟨⟨s0, s1⟩, ⟨a0, a1, a2, a3, a4, a5, a6, a7⟩, a8⟩ := hS; go_simp <;> with_reducible rfl
    simp only [Act.put, List.getElem_toArray, List.getElem_cons_succ, List.getElem_cons_zero, List.setIfInBounds_toArray, List.set_cons_succ, List.set_cons_zero]
    refine wpAnyH_take (i := 1) (v := ?_) rfl (by kernel_rfl) (by kernel_rfl) (by kernel_rfl) (fun _ _ _ h => h) (Or.inl ⟨rfl, ?_⟩) hHeld ?_
    rotate_left
    · intro w' hS; obtain ⟨⟨s0, s1⟩, ⟨a0, a1, a2, a3, a4, a5, a6, a7⟩, a8⟩ := hS; go_simp <;> with_reducible rfl
    simp only [Act.put, List.getElem_toArray, List.getElem_cons_succ, List.getElem_cons_zero, List.setIfInBounds_toArray, List.set_cons_succ, List.set_cons_zero]
    refine wpAnyH_take (i := 2) (v := ?_) rfl (by kernel_rfl) (by kernel_rfl) (by kernel_rfl) (fun _ _ _ h => h) (Or.inl ⟨rfl, ?_⟩) hHeld ?_
    rotate_left
    · intro w' hS; obtain ⟨⟨s0, s1⟩, ⟨a0, a1, a2, a3, a4, a5, a6, a7⟩, a8⟩ := hS; go_simp <;> with_reducible rfl
    simp only [Act.put, List.getElem_toArray, List.getElem_cons_succ, List.getElem_cons_zero, List.setIfInBounds_toArray, List.set_cons_succ, List.set_cons_zero]
    refine wpAnyH_take (i := 3) (v := ?_) rfl (by kernel_rfl) (by kernel_rfl) (by kernel_rfl) (fun _ _ _ h => h) (Or.inl ⟨rfl, ?_⟩) hHeld ?_
    rotate_left
    · intro w' hS; obtain ⟨⟨s0, s1⟩, ⟨a0, a1, a2, a3, a4, a5, a6, a7⟩, a8⟩ := hS; go_simp <;> with_reducible rfl
    simp only [Act.put, List.getElem_toArray, List.getElem_cons_succ, List.getElem_cons_zero, List.setIfInBounds_toArray, List.set_cons_succ, List.set_cons_zero]
    refine wpAnyH_take (i := 5) (v := ?_) rfl (by kernel_rfl) (by kernel_rfl) (by kernel_rfl) (fun _ _ _ h => h) (Or.inl ⟨rfl, ?_⟩) hHeld ?_
    rotate_left
    · intro w' hS; obtain ⟨⟨s0, s1⟩, ⟨a0, a1, a2, a3, a4, a5, a6, a7⟩, a8⟩ := hS; go_simp <;> with_reducible rfl
    simp only [Act.put, List.getElem_toArray, List.getElem_cons_succ, List.getElem_cons_zero, List.setIfInBounds_toArray, List.set_cons_succ, List.set_cons_zero]
    refine wpAnyH_take (i := 8) (v := ?_) rfl (by kernel_rfl) (by kernel_rfl) (by kernel_rfl) (fun _ _ _ h => h) (Or.inl ⟨rfl, ?_⟩) hHeld ?_
    rotate_left
    · intro w' hS; obtain ⟨⟨s0, s1⟩, ⟨a0, a1, a2, a3, a4, a5, a6, a7⟩, a8⟩ := hS; go_simp <;> with_reducible rfl
    simp only [Act.put, List.getElem_toArray, List.getElem_cons_succ, List.getElem_cons_zero, List.setIfInBounds_toArray, List.set_cons_succ, List.set_cons_zero]
    refine wpAnyH_ready (rs := [4]) (by kernel_rfl) (by simp) (AllReadyH.cons rfl (fun K hK => ?_) AllReadyH.nil)
    go_simp
    refine (calmPlaces_any k _ hk4).mono ?_
    rintro e w2 ⟨g1, g3, g4, rfl, hF, hb2⟩
    have ht2 := below_then ht.drew hb2 ht.size
    have hc2 := hc1.drew.below hb2
    have hp2 := hp1.drew.below hb2
    unfold calmFnV
    refine hK.out _ _ (cis_of hc2 hp2) (fun hHeld => ?_)
    clear hK K
    try simp only [Act.put, List.getElem_toArray, List.getElem_cons_succ, List.getElem_cons_zero, List.setIfInBounds_toArray, List.set_cons_succ, List.set_cons_zero]
    refine wpAnyH_ready (rs := [6]) (by kernel_rfl) (by simp) (AllReadyH.cons rfl (fun K hK => ?_) AllReadyH.nil)
    go_simp
    refine (calmPlaceFn_any k g1 g3 g4 (fun i => bs.getD i false) t _ hk4 (by exact hF)).mono ?_
    rintro e w3 ⟨rfl, hb3⟩
    have ht3 := below_then ht2 hb3 ht2.size
    refine hK.out _ _ (cis_of (hc2.below hb3) (hp2.below hb3)) (fun hHeld => ?_)
    clear hK K
    try simp only [Act.put, List.getElem_toArray, List.getElem_cons_succ, List.getElem_cons_zero, List.setIfInBounds_toArray, List.set_cons_succ, List.set_cons_zero]
    refine wpAnyH_take (i := 7) (v := ?_) rfl (by kernel_rfl) (by kernel_rfl) (by kernel_rfl) (fun _ _ _ h => h) (Or.inl ⟨rfl, ?_⟩) hHeld ?_
    rotate_left
    · intro w' hS; obtain ⟨⟨s0, s1⟩, ⟨a0, a1, a2, a3, a4, a5, a6, a7⟩, a8⟩ := hS; go_simp <;> with_reducible rfl
    simp only [Act.put, List.getElem_toArray, List.getElem_cons_succ, List.getElem_cons_zero, List.setIfInBounds_toArray, List.set_cons_succ, List.set_cons_zero]
    refine wpAnyH_take (i := 9) (v := ?_) rfl (by kernel_rfl) (by kernel_rfl) (by kernel_rfl) (fun _ _ _ h => h) (Or.inl ⟨rfl, ?_⟩) hHeld ?_
    rotate_left
    · intro w' hS; obtain ⟨⟨s0, s1⟩, ⟨a0, a1, a2, a3, a4, a5, a6, a7⟩, a8⟩ := hS; go_simp <;> with_reducible rfl
    simp only [Act.put, List.getElem_toArray, List.getElem_cons_succ, List.getElem_cons_zero, List.setIfInBounds_toArray, List.set_cons_succ, List.set_cons_zero]
    refine wpAnyH_take (i := 10) (v := ?_) rfl (by kernel_rfl) (by kernel_rfl) (by kernel_rfl) (fun _ _ _ h => h) (Or.inl ⟨rfl, ?_⟩) hHeld ?_
    rotate_left
    · intro w' hS; obtain ⟨⟨s0, s1⟩, ⟨a0, a1, a2, a3, a4, a5, a6, a7⟩, a8⟩ := hS; go_simp <;> with_reducible rfl
    simp only [Act.put, List.getElem_toArray, List.getElem_cons_succ, List.getElem_cons_zero, List.setIfInBounds_toArray, List.set_cons_succ, List.set_cons_zero]
    refine wpAnyH_done (by kernel_rfl) ?_ _
    clear hHeld
    go_wp2
    go_ret2
    exact ⟨by rw [HC.out, HP.out]; rfl, ht3⟩
  · have HP := Lib.hid hp
    have HC := Lib.hid (calmIn_no hp)
    have ht := below_then (below2 w _ _) hb (by simp; omega)
    clear hp hb
    unfold placeCells
    go_wp2
    go_quiet (fail)
    go_wp2
    go_ret2
    exact ⟨by rw [HC.out, HP.out]; rfl, below_draws (ht.alloc ht.size _) _⟩
end Go.Proofs.Yteeolclnoblkcaa
