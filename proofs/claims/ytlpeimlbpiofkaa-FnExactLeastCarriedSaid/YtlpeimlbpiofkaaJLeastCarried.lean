/-
  What is proved: the given statement on FnExactLeastCarried: at every argument of its kinds the law returns true and the arguments read as before. Conditions: none beyond the statement's own.
  Beside it, what it stands on:
  What is proved: the law FnExactLeastCarried returns true at every argument, and leaves all that was there as it was. Conditions: the arguments are read as they lie.
-/
import Derived.Deep.RegionHeld3
import Derived.JoinedOf
import Derived.Test.YtlpeimlbpiofkaaJ10FirstCarried
set_option linter.unusedSimpArgs false
set_option linter.unusedVariables false
namespace Go.Proofs.Ytlpeimlbpiofkaa
open Go.RowKit

set_option maxHeartbeats 800000 in
set_option linter.unusedVariables false in
theorem lawLeastCarried_big0 (A0 : Option Addr) (n0 c0 : Nat) (x0 : List Int) (A1 : Option Addr) (n1 c1 : Nat) (x1 : List Bool) (k0 : Int) (w : World) (h0 : Holds w A0 (nums x0)) (hx0 : x0.length = n0) (hn0 : n0 ≤ 9223372036854775807) (h1 : Holds w A1 (bits x1)) (hx1 : x1.length = n1) (hn1 : n1 ≤ 9223372036854775807)  (hbig : 1048576 - (n0 : Int) - (n1 : Int) < 0) :
    Calls Try.prog 12 #[.agg #[.slice A0 n0 c0, .slice A1 n1 c1, .int .i64 k0]] w fun e w' => e = .returned (.bool true) ∧ Below w.heap.size w w' := by
  have hb0 := (Whole.fresh w 54 #[.slice A0 n0 c0, .slice A1 n1 c1, .int .i64 k0])
  have ht := below1 w (.cells #[.slice A0 n0 c0, .slice A1 n1 c1, .int .i64 k0] 54)
  have HX0 := Lib.hid hx0
  have HX1 := Lib.hid hx1
  clear hx0 hx1
  obtain ⟨hb0_0, hb0_1, hb0_2⟩ := hb0.cells3
  have hb0_l := hb0.lt
  go_enter Try.func12, Try.ntmps12
  go_wp2_with fail
  refine (szCrew_any A0 n0 c0 A1 n1 c1 k0 (1048576) _ (by omega) (by omega) (by omega) (by omega)).mono ?_
  rintro e v1 ⟨rfl, hb⟩
  rw [crewLeft_bad (by omega)]
  have hz1 : w.heap.size + 1 ≤ v1.heap.size := by have := hb.size; simpa using this
  replace ht := below_then ht hb ht.size
  replace hb0 := hb0.below hb
  clear hb
  clear hb0_0 hb0_1 hb0_2 hb0_l
  go_wp2
  go_ret
  exact ⟨rfl, ht⟩

set_option maxHeartbeats 12800000 in
set_option maxRecDepth 100000 in
set_option linter.unusedSimpArgs false in
set_option linter.unusedVariables false in
theorem lawLeastCarried_small (A0 : Option Addr) (n0 c0 : Nat) (x0 : List Int) (A1 : Option Addr) (n1 c1 : Nat) (x1 : List Bool) (k0 : Int) (w : World) (h0 : Holds w A0 (nums x0)) (hx0 : x0.length = n0) (hn0 : n0 ≤ 9223372036854775807) (h1 : Holds w A1 (bits x1)) (hx1 : x1.length = n1) (hn1 : n1 ≤ 9223372036854775807) (g0 : 0 ≤ 1048576 - (n0 : Int) - (n1 : Int)) :
    Calls Try.prog 12 #[.agg #[.slice A0 n0 c0, .slice A1 n1 c1, .int .i64 k0]] w fun e w' => e = .returned (.bool true) ∧ Below w.heap.size w w' := by
  have hb0 := (Whole.fresh w 54 #[.slice A0 n0 c0, .slice A1 n1 c1, .int .i64 k0])
  have ht := below1 w (.cells #[.slice A0 n0 c0, .slice A1 n1 c1, .int .i64 k0] 54)
  have HX0 := Lib.hid hx0
  have HX1 := Lib.hid hx1
  clear hx0 hx1
  obtain ⟨hb0_0, hb0_1, hb0_2⟩ := hb0.cells3
  have hb0_l := hb0.lt
  go_enter Try.func12, Try.ntmps12
  -- region 2
  go_wp2_with fail
  refine (szCrew_any A0 n0 c0 A1 n1 c1 k0 (1048576) _ (by omega) (by omega) (by omega) (by omega)).mono ?_
  rintro e v1 ⟨rfl, hb⟩
  rw [crewLeft_ok (by omega)]
  have hz1 : w.heap.size + 1 ≤ v1.heap.size := by have := hb.size; simpa using this
  replace ht := below_then ht hb ht.size
  replace hb0 := hb0.below hb
  clear hb
  clear hb0_0 hb0_1 hb0_2 hb0_l
  obtain ⟨hb0_0, hb0_1, hb0_2⟩ := hb0.cells3
  have hb0_l := hb0.lt
  -- region 5
  go_wp2_with fail
  refine (toCrew_own A0 n0 c0 x0 A1 n1 c1 x1 k0 _ (by exact h0.below ht) (by exact h1.below ht) HX0.out HX1.out (by omega) (by omega)).mono ?_
  rintro e v2 ⟨gp0, gp1, rfl, hgp0, hwp0, hgp1, hwp1, hb⟩
  have hz2 : v1.heap.size ≤ v2.heap.size := by have := hb.size; simpa using this
  replace ht := below_then ht hb ht.size
  replace hb0 := hb0.below hb
  have hgmp0 : v1.heap.size ≤ gp1 ∧ gp1 < v2.heap.size := ⟨by have := hgp0; (try simp at this); omega, hwp1.lt⟩
  have hp0 := Fresh.of_whole (lo := v1.heap.size) (hi := gp1) hwp0 (by simpa using hgp0) hgp1
  have hp1 := Fresh.of_whole (lo := gp1) (hi := v2.heap.size) hwp1 (Nat.le_refl _) hwp1.lt
  clear hgp0 hwp0 hgp1 hwp1
  clear hb
  clear hb0_0 hb0_1 hb0_2 hb0_l
  obtain ⟨hb0_0, hb0_1, hb0_2⟩ := hb0.cells3
  have hb0_l := hb0.lt
  go_wp2_with fail
  refine (specLeastCarried_any _ n0 _ _ n1 _ x0 x1 k0 _ (by exact hp0.holds) (by exact hp1.holds) HX0.out HX1.out (by omega)).mono ?_
  rintro e v3 ⟨rfl, hb⟩
  have hz3 : v2.heap.size ≤ v3.heap.size := by have := hb.size; simpa using this
  replace ht := below_then ht hb ht.size
  replace hb0 := hb0.below hb
  replace hp0 := hp0.below hb
  replace hp1 := hp1.below hb
  clear hb
  clear hp0 hp1
  clear hb0_0 hb0_1 hb0_2 hb0_l
  obtain ⟨hb0_0, hb0_1, hb0_2⟩ := hb0.cells3
  have hb0_l := hb0.lt
  -- region 6
  go_wp2_with fail
  refine (toCrew_own A0 n0 c0 x0 A1 n1 c1 x1 k0 _ (by exact h0.below ht) (by exact h1.below ht) HX0.out HX1.out (by omega) (by omega)).mono ?_
  rintro e v4 ⟨gx0, gx1, rfl, hgx0, hwx0, hgx1, hwx1, hb⟩
  have hz4 : v3.heap.size ≤ v4.heap.size := by have := hb.size; simpa using this
  replace ht := below_then ht hb ht.size
  replace hb0 := hb0.below hb
  have hgmx0 : v3.heap.size ≤ gx1 ∧ gx1 < v4.heap.size := ⟨by have := hgx0; (try simp at this); omega, hwx1.lt⟩
  have hx0 := Fresh.of_whole (lo := v3.heap.size) (hi := gx1) hwx0 (by simpa using hgx0) hgx1
  have hx1 := Fresh.of_whole (lo := gx1) (hi := v4.heap.size) hwx1 (Nat.le_refl _) hwx1.lt
  clear hgx0 hwx0 hgx1 hwx1
  clear hb
  have hx90 := Whole.fresh v4 57 #[.slice (some ⟨gx0, 0, none⟩) n0 n0, .slice (some ⟨gx1, 0, none⟩) n1 n1, .int .i64 k0]
  replace ht := ht.alloc ht.size (.cells #[.slice (some ⟨gx0, 0, none⟩) n0 n0, .slice (some ⟨gx1, 0, none⟩) n1 n1, .int .i64 k0] 57)
  replace hb0 := hb0.alloc (.cells #[.slice (some ⟨gx0, 0, none⟩) n0 n0, .slice (some ⟨gx1, 0, none⟩) n1 n1, .int .i64 k0] 57)
  replace hx0 := hx0.alloc (.cells #[.slice (some ⟨gx0, 0, none⟩) n0 n0, .slice (some ⟨gx1, 0, none⟩) n1 n1, .int .i64 k0] 57)
  replace hx1 := hx1.alloc (.cells #[.slice (some ⟨gx0, 0, none⟩) n0 n0, .slice (some ⟨gx1, 0, none⟩) n1 n1, .int .i64 k0] 57)
  clear hb0_0 hb0_1 hb0_2 hb0_l
  obtain ⟨hb0_0, hb0_1, hb0_2⟩ := hb0.cells3
  have hb0_l := hb0.lt
  obtain ⟨hx90_0, hx90_1, hx90_2⟩ := hx90.cells3
  have hx90_l := hx90.lt
  -- region 7
  go_wp2_with fail
  refine (implLeastCarried_any _ n0 _ _ n1 _ x0 x1 k0 _ (by exact hx0.holds) (by exact hx1.holds) HX0.out HX1.out (by omega) (Nat.le_refl _) (by omega)).mono ?_
  rintro e v5 ⟨rfl, hb⟩
  have hz5 : v4.heap.size + 1 ≤ v5.heap.size := by have := hb.size; simpa using this
  replace ht := below_then ht hb ht.size
  replace hb0 := hb0.below hb
  replace hx0 := hx0.below hb
  replace hx1 := hx1.below hb
  replace hx90 := hx90.below hb
  clear hb
  clear hb0_0 hb0_1 hb0_2 hb0_l hx90_0 hx90_1 hx90_2 hx90_l
  obtain ⟨hb0_0, hb0_1, hb0_2⟩ := hb0.cells3
  have hb0_l := hb0.lt
  obtain ⟨hx90_0, hx90_1, hx90_2⟩ := hx90.cells3
  have hx90_l := hx90.lt
  -- region 10
  clear hb0_0 hb0_1 hb0_2 hb0_l hx90_0 hx90_1 hx90_2 hx90_l
  go_wp2_with fail
  refine wp_region_held_drew (S := (fun w' => w'.cell? ⟨w.heap.size, 0, none⟩ = some (.slice A0 n0 c0) ∧ w'.cell? ⟨w.heap.size, 1, none⟩ = some (.slice A1 n1 c1) ∧ w'.cell? ⟨w.heap.size, 2, none⟩ = some (.int .i64 k0) ∧ w'.cell? ⟨v4.heap.size, 0, none⟩ = some (.slice (some ⟨gx0, 0, none⟩) n0 n0) ∧ w'.cell? ⟨v4.heap.size, 1, none⟩ = some (.slice (some ⟨gx1, 0, none⟩) n1 n1) ∧ w'.cell? ⟨v4.heap.size, 2, none⟩ = some (.int .i64 k0))) (by kernel_rfl) ⟨hb0.drew.cell 0, hb0.drew.cell 1, hb0.drew.cell 2, hx90.drew.cell 0, hx90.drew.cell 1, hx90.drew.cell 2⟩ (fun hHeld => ?_)
  replace ht := ht.drew
  replace hb0 := hb0.drew
  replace hx0 := hx0.drew
  replace hx1 := hx1.drew
  replace hx90 := hx90.drew
  refine wpAnyH_take (i := 0) (v := ?_) rfl (by kernel_rfl) (by kernel_rfl) (by kernel_rfl) (fun _ _ _ h => h) (Or.inl ⟨rfl, ?_⟩) hHeld ?_
  rotate_left
  · intro w' hS; obtain ⟨s0, s1, s2, s3, s4, s5⟩ := hS; go_simp <;> with_reducible rfl
  simp only [Act.put, List.getElem_toArray, List.getElem_cons_succ, List.getElem_cons_zero, List.setIfInBounds_toArray, List.set_cons_succ, List.set_cons_zero]
  refine wpAnyH_take (i := 1) (v := ?_) rfl (by kernel_rfl) (by kernel_rfl) (by kernel_rfl) (fun _ _ _ h => h) (Or.inl ⟨rfl, ?_⟩) hHeld ?_
  rotate_left
  · intro w' hS; obtain ⟨s0, s1, s2, s3, s4, s5⟩ := hS; go_simp <;> with_reducible rfl
  simp only [Act.put, List.getElem_toArray, List.getElem_cons_succ, List.getElem_cons_zero, List.setIfInBounds_toArray, List.set_cons_succ, List.set_cons_zero]
  refine wpAnyH_ready (rs := [2]) (by kernel_rfl) (by simp) (AllReadyH.cons rfl (fun K hK => ?_) AllReadyH.nil)
  go_simp
  refine (toCrew_own A0 n0 c0 x0 A1 n1 c1 x1 k0 _ (by exact h0.below ht) (by exact h1.below ht) HX0.out HX1.out (by omega) (by omega)).mono ?_
  rintro e v6 ⟨gy0, gy1, rfl, hgy0, hwy0, hgy1, hwy1, hb⟩
  have hz6 : v5.heap.size ≤ v6.heap.size := by have := hb.size; simpa using this
  replace ht := below_then ht hb ht.size
  replace hb0 := hb0.below hb
  replace hx0 := hx0.below hb
  replace hx1 := hx1.below hb
  replace hx90 := hx90.below hb
  have hgmy0 : v5.heap.size ≤ gy1 ∧ gy1 < v6.heap.size := ⟨by have := hgy0; (try simp at this); omega, hwy1.lt⟩
  have hy0 := Fresh.of_whole (lo := v5.heap.size) (hi := gy1) hwy0 (by simpa using hgy0) hgy1
  have hy1 := Fresh.of_whole (lo := gy1) (hi := v6.heap.size) hwy1 (Nat.le_refl _) hwy1.lt
  clear hgy0 hwy0 hgy1 hwy1
  clear hb
  refine hK.out _ _ ⟨hb0.cell 0, hb0.cell 1, hb0.cell 2, hx90.cell 0, hx90.cell 1, hx90.cell 2⟩ (fun hHeld => ?_)
  clear hK K
  try simp only [Act.put, List.getElem_toArray, List.getElem_cons_succ, List.getElem_cons_zero, List.setIfInBounds_toArray, List.set_cons_succ, List.set_cons_zero]
  refine wpAnyH_ready (rs := [3]) (by kernel_rfl) (by simp) (AllReadyH.cons rfl (fun K hK => ?_) AllReadyH.nil)
  go_simp
  refine (eqCrew_yes _ _ n0 _ _ x0 _ _ n1 _ _ x1 k0 _ (by exact hx0.holds) (by exact hy0.holds) (by exact hx1.holds) (by exact hy1.holds) HX0.out HX1.out (by omega) (by omega)).mono ?_
  rintro e v7 ⟨rfl, hb⟩
  have hz7 : v6.heap.size ≤ v7.heap.size := by have := hb.size; simpa using this
  replace ht := below_then ht hb ht.size
  replace hb0 := hb0.below hb
  replace hx0 := hx0.below hb
  replace hx1 := hx1.below hb
  replace hx90 := hx90.below hb
  replace hy0 := hy0.below hb
  replace hy1 := hy1.below hb
  clear hb
  clear hy0 hy1
  refine hK.out _ _ ⟨hb0.cell 0, hb0.cell 1, hb0.cell 2, hx90.cell 0, hx90.cell 1, hx90.cell 2⟩ (fun hHeld => ?_)
  clear hK K
  try simp only [Act.put, List.getElem_toArray, List.getElem_cons_succ, List.getElem_cons_zero, List.setIfInBounds_toArray, List.set_cons_succ, List.set_cons_zero]
  refine wpAnyH_take (i := 4) (v := ?_) rfl (by kernel_rfl) (by kernel_rfl) (by kernel_rfl) (fun _ _ _ h => h) (Or.inl ⟨rfl, ?_⟩) hHeld ?_
  rotate_left
  · intro w' hS; obtain ⟨s0, s1, s2, s3, s4, s5⟩ := hS; go_simp <;> with_reducible rfl
  simp only [Act.put, List.getElem_toArray, List.getElem_cons_succ, List.getElem_cons_zero, List.setIfInBounds_toArray, List.set_cons_succ, List.set_cons_zero]
  refine wpAnyH_done (by kernel_rfl) ?_ _
  clear hHeld
  obtain ⟨hb0_0, hb0_1, hb0_2⟩ := hb0.cells3
  have hb0_l := hb0.lt
  obtain ⟨hx90_0, hx90_1, hx90_2⟩ := hx90.cells3
  have hx90_l := hx90.lt
  go_wp2
  go_ret
  exact ⟨rfl, ht⟩

theorem lawLeastCarried_all (A0 : Option Addr) (n0 c0 : Nat) (x0 : List Int) (A1 : Option Addr) (n1 c1 : Nat) (x1 : List Bool) (k0 : Int) (w : World) (h0 : Holds w A0 (nums x0)) (hx0 : x0.length = n0) (hn0 : n0 ≤ 9223372036854775807) (h1 : Holds w A1 (bits x1)) (hx1 : x1.length = n1) (hn1 : n1 ≤ 9223372036854775807) :
    Calls Try.prog 12 #[.agg #[.slice A0 n0 c0, .slice A1 n1 c1, .int .i64 k0]] w fun e w' => e = .returned (.bool true) ∧ Below w.heap.size w w' := by
  rcases (inferInstance : Decidable (0 ≤ 1048576 - (n0 : Int) - (n1 : Int))) with g0 | g0
  · exact lawLeastCarried_big0 A0 n0 c0 x0 A1 n1 c1 x1 k0 w h0 hx0 hn0 h1 hx1 hn1  (by omega)
  exact lawLeastCarried_small A0 n0 c0 x0 A1 n1 c1 x1 k0 w h0 hx0 hn0 h1 hx1 hn1 g0
end Go.Proofs.Ytlpeimlbpiofkaa

namespace Go.Proofs.Ytlpeimlbpiofkaa.leastCarried
open Go.ChangeShapes Go.WideShapes Go.ChangeAt Go.RowKit Go.Joins

set_option maxRecDepth 100000 in
theorem lifted (os : Os) (started : os.Started) (H : Type) (enc : TypeId × Value → H) :
    ReturnsInHanded {} Try.checked os 12 .any (Rows.fnExactLeastCarriedSpec.pre6 enc Try.prog Try.f12 Rows.fnExactLeastCarriedRow.domain false) (Rows.fnExactLeastCarriedSpec.post enc Try.prog Try.f12 false true false false) := by
  refine returnsInHanded_of_change (C := Try.checked) own started (by kernel_rfl) Try.func12
    (ChangeSpec.witness6 (enc := enc) (C := Try.checked) false ⟨#[], #[.agg #[.slice none 0 0, .slice none 0 0, .int .i64 0]], []⟩ 8 (by kernel_rfl) (by kernel_rfl) (by kernel_rfl) (by kernel_rfl)) ?_
  intro W base args ds gs before hval0 hW hcnd _
  have hval : ∀ (j : Nat) t v, Try.f12.params[j]? = some t → args[j]? = some v → Value.okWide Try.prog W .any base t v := hval0
  have hW' := hW
  obtain ⟨p, q, hA0, hV, rfl, hfz, hnd⟩ := hW
  have hA : DataW.TrodAll enc Try.prog W 0 (fun _ => true) true Try.f12.params.toList args.toList ds p := hA0
  rw [Try.params12] at hA hval
  obtain ⟨v0, vs0, d0, ds0, p0, q0, hargs, rfl, rfl, h0, r0⟩ := trodAll_cons hA
  obtain ⟨rfl, rfl, rfl⟩ := trodAll_nil r0
  obtain rfl : args = #[v0] := by cases args; simp_all
  obtain ⟨rfl, rfl⟩ := trodVars_none hV
  have lt0 : ∀ x ∈ p0, x.block < W.heap.size := by obtain ⟨m, hm⟩ := h0; exact DataW.trod_lt m _ _ _ hm
  obtain ⟨A0, n0, c0, xs0, B0, q0_, d0, ys0, k0, hv0, hr0, hx0, hn0, hs0, hy0, hm0⟩ := open_crew (hval 0 54 v0 rfl rfl) h0
  subst hv0
  clear hA0 hval0
  refine (lawLeastCarried_all A0 n0 c0 xs0 B0 q0_ d0 ys0 k0 W hr0 hx0 hn0 hs0 hy0 hm0).mono fun e W' ⟨he, bel⟩ => ?_
  subst he
  exact ⟨_, rfl, _, _, _, [], _, [], hW', trodAll_mk1 (shut_bool Try.underlying4 _), (trodAll_cons_mk (Below.trod laidOut (by kernel_rfl) (of_decide_eq_true (by kernel_rfl)) h0 bel lt0) trodAll_mk0), rfl, bel.frame _, fun h => by cases h⟩

set_option maxHeartbeats 8000000 in
theorem facts : joinedFacts Try.prog 12 Try.f12 Rows.fnExactLeastCarriedSpec Rows.fnExactLeastCarriedRow = true := by
  unfold joinedFacts
  rw [enter.laid, enter.rowed, enter.heard, enter.keys, enter.mayEnter, enter.liftsFinal, enter.make]
  simp only [Bool.and_eq_true]
  repeat' apply And.intro
  all_goals (first | exact True.intro | (as_aux_lemma => kernel_rfl))

theorem named_ : Try.prog.funcNamed Rows.fnExactLeastCarriedRow.func = some 12 := by kernel_rfl
theorem instance_ : Try.f12.isInstance Try.prog Rows.fnExactLeastCarriedRow.origin Rows.fnExactLeastCarriedRow.targs := of_decide_eq_true (by kernel_rfl)
theorem wrapper_ : Try.f12.isWrapper Try.prog Rows.fnExactLeastCarriedRow.wrapper Rows.fnExactLeastCarriedRow.mainSum := by
  unfold Func.isWrapper; first | (rw [if_pos (by decide +kernel)]; kernel_rfl) | (rw [if_neg (by decide +kernel)]; exact ⟨rfl, rfl⟩)

theorem proved : Rows.FnExactLeastCarriedSaid :=
  OpenClaim.holds_of_wide 12 Try.f12 rfl rfl rfl rfl rfl rfl rfl ⟨rfl, rfl, rfl, rfl, rfl⟩ rfl rfl rfl rfl rfl named_ Try.func12 facts
    instance_ wrapper_ (fun os started H enc _ => lifted os started H enc)
#print axioms proved
end Go.Proofs.Ytlpeimlbpiofkaa.leastCarried
