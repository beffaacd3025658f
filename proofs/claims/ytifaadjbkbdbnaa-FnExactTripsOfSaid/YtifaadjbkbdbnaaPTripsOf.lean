/-
  What is proved: the given statement on FnExactTripsOf: at every argument of its kinds the law returns true and the arguments read as before. Conditions: none beyond the statement's own.
-/
import Derived.Test.YtifaadjbkbdbnaaLTripsOf
import Derived.Test.YtifaadjbkbdbnaaFrame2
import Derived.Test.YtifaadjbkbdbnaaEnter
import Derived.JoinedOf
namespace Go.Proofs.Ytifaadjbkbdbnaa.tripsOf
open Go.ChangeShapes Go.WideShapes Go.ChangeAt Go.RowKit Go.Joins

set_option maxRecDepth 100000 in
theorem lifted (os : Os) (started : os.Started) (H : Type) (enc : TypeId × Value → H) :
    ReturnsInHanded {} Try.checked os 3 .any (Rows.fnExactTripsOfSpec.pre6 enc Try.prog Try.f3 Rows.fnExactTripsOfRow.domain false) (Rows.fnExactTripsOfSpec.post enc Try.prog Try.f3 false true false false) := by
  refine returnsInHanded_of_change (C := Try.checked) own started (by kernel_rfl) Try.func3
    (ChangeSpec.witness6 (enc := enc) (C := Try.checked) false ⟨#[], #[.agg #[.slice none 0 0, .int .i64 0], .agg #[.slice none 0 0, .bool false]], []⟩ 8 (by kernel_rfl) (by kernel_rfl) (by kernel_rfl) (by kernel_rfl)) ?_
  intro W base args ds gs before hval0 hW hcnd _
  have hval : ∀ (j : Nat) t v, Try.f3.params[j]? = some t → args[j]? = some v → Value.okWide Try.prog W .any base t v := hval0
  have hW' := hW
  obtain ⟨p, q, hA0, hV, rfl, hfz, hnd⟩ := hW
  have hA : DataW.TrodAll enc Try.prog W 0 (fun _ => true) true Try.f3.params.toList args.toList ds p := hA0
  rw [Try.params3] at hA hval
  obtain ⟨v0, vs0, d0, ds0, p0, q0, hargs, rfl, rfl, h0, r0⟩ := trodAll_cons hA
  obtain ⟨v1, vs1, d1, ds1, p1, q1, rfl, rfl, rfl, h1, r1⟩ := trodAll_cons r0
  obtain ⟨rfl, rfl, rfl⟩ := trodAll_nil r1
  obtain rfl : args = #[v0, v1] := by cases args; simp_all
  obtain ⟨rfl, rfl⟩ := trodVars_none hV
  have lt0 : ∀ x ∈ p0, x.block < W.heap.size := by obtain ⟨m, hm⟩ := h0; exact DataW.trod_lt m _ _ _ hm
  have lt1 : ∀ x ∈ p1, x.block < W.heap.size := by obtain ⟨m, hm⟩ := h1; exact DataW.trod_lt m _ _ _ hm
  obtain ⟨A0, n0, c0, xs0, s0, hv0, hr0, hx0, hn0⟩ := open_party (hval 0 24 v0 rfl rfl) h0
  subst hv0
  obtain ⟨A1, n1, c1, xs1, s1, hv1, hr1, hx1, hn1⟩ := open_state (hval 1 27 v1 rfl rfl) h1
  subst hv1
  clear hA0 hval0
  refine (lawTripsOf_all A0 n0 c0 xs0 s0 A1 n1 c1 xs1 s1 W hr0 hx0 hn0 hr1 hx1 hn1).mono fun e W' ⟨he, bel⟩ => ?_
  subst he
  exact ⟨_, rfl, _, _, _, [], _, [], hW', trodAll_mk1 (shut_bool Try.underlying4 _), (trodAll_cons_mk (Below.trod laidOut (by kernel_rfl) (of_decide_eq_true (by kernel_rfl)) h0 bel lt0) (trodAll_cons_mk (Below.trod laidOut (by kernel_rfl) (of_decide_eq_true (by kernel_rfl)) h1 bel lt1) trodAll_mk0)), rfl, bel.frame _, fun h => by cases h⟩

set_option maxHeartbeats 8000000 in
theorem facts : joinedFacts Try.prog 3 Try.f3 Rows.fnExactTripsOfSpec Rows.fnExactTripsOfRow = true := by
  unfold joinedFacts
  rw [enter.laid, enter.rowed, enter.heard, enter.keys, enter.mayEnter, enter.liftsFinal, enter.make]
  simp only [Bool.and_eq_true]
  repeat' apply And.intro
  all_goals (first | exact True.intro | (as_aux_lemma => kernel_rfl))

theorem named_ : Try.prog.funcNamed Rows.fnExactTripsOfRow.func = some 3 := by kernel_rfl
theorem instance_ : Try.f3.isInstance Try.prog Rows.fnExactTripsOfRow.origin Rows.fnExactTripsOfRow.targs := of_decide_eq_true (by kernel_rfl)
theorem wrapper_ : Try.f3.isWrapper Try.prog Rows.fnExactTripsOfRow.wrapper Rows.fnExactTripsOfRow.mainSum := by
  unfold Func.isWrapper; first | (rw [if_pos (by decide +kernel)]; kernel_rfl) | (rw [if_neg (by decide +kernel)]; exact ⟨rfl, rfl⟩)

theorem proved : Rows.FnExactTripsOfSaid :=
  OpenClaim.holds_of_wide 3 Try.f3 rfl rfl rfl rfl rfl rfl rfl ⟨rfl, rfl, rfl, rfl, rfl⟩ rfl rfl rfl rfl rfl named_ Try.func3 facts
    instance_ wrapper_ (fun os started H enc _ => lifted os started H enc)
#print axioms proved
end Go.Proofs.Ytifaadjbkbdbnaa.tripsOf
