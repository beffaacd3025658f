/-
  What is proved: the given statement on FnExactIsHidden: at every argument of its kinds the law returns true and the arguments read as before. Conditions: none beyond the statement's own.
-/
import Derived.Test.YtcoagbcleccmmaaLIsHidden
import Derived.Test.YtcoagbcleccmmaaFrame2
import Derived.Test.YtcoagbcleccmmaaEnter
import Derived.JoinedOf
namespace Go.Proofs.Ytcoagbcleccmmaa.isHidden
open Go.ChangeShapes Go.WideShapes Go.ChangeAt Go.RowKit Go.Joins

set_option maxRecDepth 100000 in
theorem lifted (os : Os) (started : os.Started) (H : Type) (enc : TypeId × Value → H) :
    ReturnsInHanded {} Try.checked os 5 .any (Rows.fnExactIsHiddenSpec.pre6 enc Try.prog Try.f5 Rows.fnExactIsHiddenRow.domain false) (Rows.fnExactIsHiddenSpec.post enc Try.prog Try.f5 false true false false) := by
  refine returnsInHanded_of_change (C := Try.checked) own started (by kernel_rfl) Try.func5
    (ChangeSpec.witness6 (enc := enc) (C := Try.checked) false ⟨#[], #[.slice none 0 0], []⟩ 8 (by kernel_rfl) (by kernel_rfl) (by kernel_rfl) (by kernel_rfl)) ?_
  intro W base args ds gs before hval0 hW hcnd _
  have hval : ∀ (j : Nat) t v, Try.f5.params[j]? = some t → args[j]? = some v → Value.okWide Try.prog W .any base t v := hval0
  have hW' := hW
  obtain ⟨p, q, hA0, hV, rfl, hfz, hnd⟩ := hW
  have hA : DataW.TrodAll enc Try.prog W 0 (fun _ => true) true Try.f5.params.toList args.toList ds p := hA0
  rw [Try.params5] at hA hval
  obtain ⟨v0, vs0, d0, ds0, p0, q0, hargs, rfl, rfl, h0, r0⟩ := trodAll_cons hA
  obtain ⟨rfl, rfl, rfl⟩ := trodAll_nil r0
  obtain rfl : args = #[v0] := by cases args; simp_all
  obtain ⟨rfl, rfl⟩ := trodVars_none hV
  have lt0 : ∀ x ∈ p0, x.block < W.heap.size := by obtain ⟨m, hm⟩ := h0; exact DataW.trod_lt m _ _ _ hm
  obtain ⟨A0, n0, c0, xs0, hv0, hr0, hx0, hn0⟩ := open_list (hval 0 39 v0 rfl rfl) h0
  subst hv0
  clear hA0 hval0
  refine (lawIsHidden_all A0 n0 c0 xs0 W hr0 hx0 hn0).mono fun e W' ⟨he, bel⟩ => ?_
  subst he
  exact ⟨_, rfl, _, _, _, [], _, [], hW', trodAll_mk1 (shut_bool Try.underlying4 _), (trodAll_cons_mk (Below.trod laidOut (by kernel_rfl) (of_decide_eq_true (by kernel_rfl)) h0 bel lt0) trodAll_mk0), rfl, bel.frame _, fun h => by cases h⟩

set_option maxHeartbeats 8000000 in
theorem facts : joinedFacts Try.prog 5 Try.f5 Rows.fnExactIsHiddenSpec Rows.fnExactIsHiddenRow = true := by
  unfold joinedFacts
  rw [enter.laid, enter.rowed, enter.heard, enter.keys, enter.mayEnter, enter.liftsFinal, enter.make]
  simp only [Bool.and_eq_true]
  repeat' apply And.intro
  all_goals (first | exact True.intro | (as_aux_lemma => kernel_rfl))

theorem named_ : Try.prog.funcNamed Rows.fnExactIsHiddenRow.func = some 5 := by kernel_rfl
theorem instance_ : Try.f5.isInstance Try.prog Rows.fnExactIsHiddenRow.origin Rows.fnExactIsHiddenRow.targs := of_decide_eq_true (by kernel_rfl)
theorem wrapper_ : Try.f5.isWrapper Try.prog Rows.fnExactIsHiddenRow.wrapper Rows.fnExactIsHiddenRow.mainSum := by
  unfold Func.isWrapper; first | (rw [if_pos (by decide +kernel)]; kernel_rfl) | (rw [if_neg (by decide +kernel)]; exact ⟨rfl, rfl⟩)

theorem proved : Rows.FnExactIsHiddenSaid :=
  OpenClaim.holds_of_wide 5 Try.f5 rfl rfl rfl rfl rfl rfl rfl ⟨rfl, rfl, rfl, rfl, rfl⟩ rfl rfl rfl rfl rfl named_ Try.func5 facts
    instance_ wrapper_ (fun os started H enc _ => lifted os started H enc)
#print axioms proved
end Go.Proofs.Ytcoagbcleccmmaa.isHidden
