/-
  What is proved: the given statement on FnExactReachedIn: at every argument of its kinds the law returns true and the arguments read as before. Conditions: none beyond the statement's own.
  Beside it, what it stands on:
  What is proved: contracts of LeastTime, of the model and of the program. Conditions: the party's times are read as they lie.
  What is proved: contracts of the model's TimeTo and TimeFrom. Conditions: the party's times and the state are read as they lie.
  What is proved: contracts of the program's TimeTo and TimeFrom. Conditions: the party's times and the state are read as they lie.
  What is proved: contracts of ReachedIn, of the model and of the program. Conditions: the party's times are read as they lie.
  What is proved: the law FnExactReachedIn returns true at every argument, and leaves all that was there as it was. Conditions: the arguments are read as they lie.
-/
import Derived.Deep.RegionHeld3
import Derived.JoinedOf
import Derived.Test.YtcikimjpjebflaaJ1CostOf
set_option linter.unusedSimpArgs false
set_option linter.unusedVariables false
namespace Go.Proofs.Ytcikimjpjebflaa
open Go.RowKit Go.Maps Go.WideShapes

noncomputable def leastOk (xs : List Int) (s : Int) : Bool := isParty xs s && planOk xs xs.length s.toNat
noncomputable def leastV (xs : List Int) (s : Int) : Int := if leastOk xs s then leastP xs xs.length s.toNat else 0
theorem leastOk_none {xs : List Int} {s : Int} (h : isParty xs s = false) : leastOk xs s = false ∧ leastV xs s = 0 := by simp [leastV, leastOk, h]
theorem leastOk_at {xs : List Int} {q : Nat} (h : isParty xs (q : Int) = true) : leastOk xs (q : Int) = planOk xs xs.length q := by simp [leastOk, h]
theorem leastV_yes {xs : List Int} {q : Nat} (h : isParty xs (q : Int) = true) (hp : planOk xs xs.length q = true) : leastV xs (q : Int) = leastP xs xs.length q := by simp [leastV, leastOk, h, hp]
theorem leastV_no {xs : List Int} {q : Nat} (h : isParty xs (q : Int) = true) (hp : planOk xs xs.length q = false) : leastV xs (q : Int) = 0 := by simp [leastV, leastOk, h, hp]
theorem leastP_yes {xs : List Int} {n q : Nat} (hx : xs.length = n) (hxs : ∀ y ∈ xs, 1 ≤ y) (hp : planOk xs n q = true) : 0 ≤ leastP xs n q := by
  obtain ⟨v, hv⟩ := Option.isSome_iff_exists.1 hp
  rw [leastP, hv]
  exact time_low hx hxs hv
theorem leastP_no {xs : List Int} {n q : Nat} (hp : planOk xs n q = false) : leastP xs n q = -1 := by
  unfold planOk at hp
  rw [leastP]
  cases hv : timeST xs n q (falses n, false) (trues n, true) with
  | none => rfl
  | some v => rw [hv] at hp; simp at hp
theorem leastP_val {xs : List Int} {n q : Nat} (hx : xs.length = n) (hn : n ≤ 8) (hxs : ∀ y ∈ xs, 1 ≤ y) (hp : planOk xs n q = true) : (partyD xs n q (codeOf (trues n) true) 0).getD 0 = leastP xs n q := by
  rw [party_first hx hn hxs, leastP]
  obtain ⟨v, hv⟩ := Option.isSome_iff_exists.1 hp
  rw [hv]
  rfl

set_option maxHeartbeats 3200000 in
set_option maxRecDepth 100000 in
theorem specLeastTime_any (A : Option Addr) (n c : Nat) (xs : List Int) (s : Int) (w : World) (hA0 : Holds w A (nums xs)) (hx : xs.length = n) (hn : n ≤ 9223372036854775807) :
    Calls Try.prog 16 #[.agg #[.slice A n c, .int .i64 s]] w fun e w' => e = .returned (.tuple #[.int .i64 (leastV xs s), .bool (leastOk xs s)]) ∧ Below w.heap.size w w' := by
  have hA := hA0.alloc (.cells #[.slice A n c, .int .i64 s] 28)
  have hq := Whole.fresh w 28 #[.slice A n c, .int .i64 s]
  have HT := Lib.hid (below1 w (.cells #[.slice A n c, .int .i64 s] 28))
  cases hp : isParty xs s
  · have HV := Lib.hid (leastOk_none hp)
    have HP := Lib.hid hp
    have HX := Lib.hid hx
    have HA := Lib.hid hA
    clear hp hA hA0 hx
    go_enter Try.func16, Try.ntmps16
    go_wp2_with fail
    refine (paGood_any A n c xs s _ HA.out HX.out hn).mono ?_
    rintro e w1 ⟨rfl, hb⟩
    rw [HP.out]
    have HT1 := Lib.hid (below_then HT.out hb HT.out.size)
    clear hb hq
    go_wp2
    go_ret2
    exact ⟨by rw [HV.out.1, HV.out.2]; rfl, HT1.out⟩
  · obtain ⟨q, rfl⟩ : ∃ q : Nat, s = (q : Int) := ⟨s.toNat, by simp only [isParty, Bool.and_eq_true, within_iff] at hp; omega⟩
    obtain ⟨g1, g8, gq1, gq8, gxs⟩ := party_parts hp
    subst hx
    have HP := Lib.hid hp
    have HA := Lib.hid hA
    have HXS := Lib.hid gxs
    have HOK := Lib.hid (leastOk_at hp)
    cases hpl : planOk xs xs.length q
    · have HV := Lib.hid (leastV_no hp hpl)
      have HLP := Lib.hid (leastP_no hpl)
      have HPL := Lib.hid hpl
      clear hp hA hA0 gxs hpl
      go_enter Try.func16, Try.ntmps16
      go_wp2_with fail
      refine (paGood_any A xs.length c xs (q : Int) _ HA.out rfl hn).mono ?_
      rintro e w1 ⟨rfl, hb⟩
      rw [HP.out]
      have HT1 := Lib.hid (below_then HT.out hb HT.out.size)
      have HA1 := Lib.hid (HA.out.below hb)
      replace hq := hq.below hb
      obtain ⟨k0, k1⟩ := hq.cells2
      have hql := hq.lt
      clear hb
      go_wp2_with fail
      refine (seLeast_any A xs.length c q xs _ HA1.out rfl g1 g8 gq8 HXS.out).mono ?_
      rintro e w2 ⟨rfl, hb⟩
      rw [HLP.out]
      have HT2 := Lib.hid (below_then HT1.out hb HT1.out.size)
      clear hb hq k0 k1 hql
      go_wp2
      go_ret2
      exact ⟨by rw [HV.out, HOK.out, HPL.out]; rfl, HT2.out⟩
    · have HV := Lib.hid (leastV_yes hp hpl)
      have HPL := Lib.hid hpl
      obtain ⟨v, hv⟩ : ∃ v, leastP xs xs.length q = v := ⟨_, rfl⟩
      have hv0 : 0 ≤ v := by rw [← hv]; exact leastP_yes rfl (fun y hy => (gxs y hy).1) hpl
      have hv1 : ¬ v < 0 := by omega
      have hd0 : decide (v < 0) = false := by simpa using hv1
      have HLV := Lib.hid hv
      clear hp hA hA0 gxs hpl hv
      go_enter Try.func16, Try.ntmps16
      go_wp2_with fail
      refine (paGood_any A xs.length c xs (q : Int) _ HA.out rfl hn).mono ?_
      rintro e w1 ⟨rfl, hb⟩
      rw [HP.out]
      have HT1 := Lib.hid (below_then HT.out hb HT.out.size)
      have HA1 := Lib.hid (HA.out.below hb)
      replace hq := hq.below hb
      obtain ⟨k0, k1⟩ := hq.cells2
      have hql := hq.lt
      clear hb
      go_wp2_with fail
      refine (seLeast_any A xs.length c q xs _ HA1.out rfl g1 g8 gq8 HXS.out).mono ?_
      rintro e w2 ⟨rfl, hb⟩
      rw [HLV.out]
      have HT2 := Lib.hid (below_then HT1.out hb HT1.out.size)
      have HA2 := Lib.hid (HA1.out.below hb)
      replace hq := hq.below hb
      clear k0 k1 hql hb
      obtain ⟨k0, k1⟩ := hq.cells2
      have hql := hq.lt
      go_wp2_with fail
      refine (seLeast_any A xs.length c q xs _ HA2.out rfl g1 g8 gq8 HXS.out).mono ?_
      rintro e w3 ⟨rfl, hb⟩
      rw [HLV.out]
      have HT3 := Lib.hid (below_then HT2.out hb HT2.out.size)
      clear hb hq k0 k1 hql
      go_wp2
      go_ret2
      exact ⟨by rw [HV.out, HLV.out, HOK.out, HPL.out]; rfl, HT3.out⟩

set_option maxHeartbeats 6400000 in
set_option maxRecDepth 100000 in
theorem implLeast_zero (A : Option Addr) (n c : Nat) (xs : List Int) (s : Int) (w : World)
    (hpl : Calls Try.prog 66 #[.agg #[.slice A n c, .int .i64 s]] (w.alloc (.cells #[.slice A n c, .int .i64 s] 28)) fun e w' => e = .returned (.tuple #[.agg zero11, .bool false]) ∧ Below (w.alloc (.cells #[.slice A n c, .int .i64 s] 28)).heap.size (w.alloc (.cells #[.slice A n c, .int .i64 s] 28)) w') :
    Calls Try.prog 18 #[.agg #[.slice A n c, .int .i64 s]] w fun e w' => e = .returned (.tuple #[.int .i64 0, .bool false]) ∧ Below w.heap.size w w' := by
  have HT := Lib.hid (below1 w (.cells #[.slice A n c, .int .i64 s] 28))
  have HPL := Lib.hid hpl
  clear hpl
  go_enter Try.func18, Try.ntmps18
  go_wp2_with fail
  refine HPL.out.mono ?_
  rintro e w1 ⟨rfl, hb⟩
  have HT1 := Lib.hid (below_then HT.out hb HT.out.size)
  have hbx : Whole (w1.alloc (.cells #[.slice none 0 0, .bool false, .bool false, .bool false, .bool false, .bool false, .bool false, .bool false, .bool false, .bool false, .map none] 86)) w1.heap.size 86 #[.slice none 0 0, .bool false, .bool false, .bool false, .bool false, .bool false, .bool false, .bool false, .bool false, .bool false, .map none] := Whole.fresh _ _ _
  have HT2 := Lib.hid (HT1.out.alloc HT1.out.size (.cells #[.slice none 0 0, .bool false, .bool false, .bool false, .bool false, .bool false, .bool false, .bool false, .bool false, .bool false, .map none] 86))
  clear hb
  unfold zero11
  obtain ⟨c0, c1, c2, c3, c4, c5, c6, c7, c8, c9, c10⟩ := cells11 hbx
  have hbl := hbx.lt
  go_wp2_with fail
  have hln := least_no (w1.alloc (.cells #[.slice none 0 0, .bool false, .bool false, .bool false, .bool false, .bool false, .bool false, .bool false, .bool false, .bool false, .map none] 86))
  unfold zero11 at hln
  refine hln.mono ?_
  clear hln
  rintro e w2 ⟨rfl, hb⟩
  have HT3 := Lib.hid (below_then HT2.out hb HT2.out.size)
  clear hb hbx c0 c1 c2 c3 c4 c5 c6 c7 c8 c9 c10 hbl
  go_wp2
  go_ret2
  exact ⟨rfl, HT3.out⟩
set_option maxHeartbeats 6400000 in
set_option maxRecDepth 100000 in
theorem implLeastTime_any (A : Option Addr) (n c : Nat) (xs : List Int) (s : Int) (w : World) (hA0 : Holds w A (nums xs)) (hx : xs.length = n) (hn : n ≤ 9223372036854775807) :
    Calls Try.prog 18 #[.agg #[.slice A n c, .int .i64 s]] w fun e w' => e = .returned (.tuple #[.int .i64 (leastV xs s), .bool (leastOk xs s)]) ∧ Below w.heap.size w w' := by
  have hA := hA0.alloc (.cells #[.slice A n c, .int .i64 s] 28)
  cases hp : isParty xs s
  · rw [(leastOk_none hp).1, (leastOk_none hp).2]
    exact implLeast_zero A n c xs s w (planned_none A n c xs s _ hA hx hn hp)
  · obtain ⟨q, rfl⟩ : ∃ q : Nat, s = (q : Int) := ⟨s.toNat, by simp only [isParty, Bool.and_eq_true, within_iff] at hp; omega⟩
    obtain ⟨g1, g8, gq1, gq8, gxs⟩ := party_parts hp
    cases hpl : planOk xs xs.length q
    · rw [leastV_no hp hpl, leastOk_at hp, hpl]
      exact implLeast_zero A n c xs (q : Int) w (planned_no A n c q xs _ hA hx hp (by rw [← hx]; exact hpl))
    · rw [leastV_yes hp hpl, leastOk_at hp, hpl]
      have hval := leastP_val rfl g8 (fun y hy => (gxs y hy).1) hpl
      rw [hx] at hval hpl ⊢
      have HVAL := Lib.hid hval
      have HPY := Lib.hid (planned_yes A n c q xs _ hA hx hp hpl)
      have HT := Lib.hid (below1 w (.cells #[.slice A n c, .int .i64 (q : Int)] 28))
      clear hp hA hA0 gxs hpl hx hval
      go_enter Try.func18, Try.ntmps18
      go_wp2_with fail
      refine HPY.out.mono ?_
      rintro e w1 ⟨E, cE, mb, rfl, hown, hmap, hb⟩
      have HT1 := Lib.hid (below_then HT.out hb HT.out.size)
      obtain ⟨x, hxx⟩ : ∃ x, codeOf (trues n) true = x := ⟨_, rfl⟩
      obtain ⟨k, hk⟩ : ∃ k, (upLists n q).length = k := ⟨_, rfl⟩
      obtain ⟨M, hM⟩ : ∃ M, partyD xs n q (codeOf (trues n) true) = M := ⟨_, rfl⟩
      rw [hM] at hmap HVAL
      rw [hxx, hk]
      have HMP := Lib.hid (hmap.alloc (.cells (routeC E k cE x mb) 86))
      have hbx : Whole (w1.alloc (.cells (routeC E k cE x mb) 86)) w1.heap.size 86 (routeC E k cE x mb) := Whole.fresh _ _ _
      have HT2 := Lib.hid (HT1.out.alloc HT1.out.size (.cells (routeC E k cE x mb) 86))
      clear hb hown hmap hxx hk hM
      have hln := least_yes E k cE x mb M _ HMP.out
      rw [HVAL.out] at hln
      have HLN := Lib.hid hln
      clear hln
      unfold routeC at HMP hbx HT2 HLN
      unfold routeC
      obtain ⟨c0, c1, c2, c3, c4, c5, c6, c7, c8, c9, c10⟩ := cells11 hbx
      have hbl := hbx.lt
      go_wp2_with fail
      refine HLN.out.mono ?_
      rintro e w2 ⟨rfl, hb⟩
      have HT3 := Lib.hid (below_then HT2.out hb HT2.out.size)
      clear hb hbx c0 c1 c2 c3 c4 c5 c6 c7 c8 c9 c10 hbl
      go_wp2
      go_ret2
      exact ⟨rfl, HT3.out⟩
end Go.Proofs.Ytcikimjpjebflaa

namespace Go.Proofs.Ytcikimjpjebflaa
open Go.RowKit Go.Maps Go.WideShapes

def Four (g : Nat) (x y z u : Value) (w : World) : Prop := w.cell? ⟨g, 0, none⟩ = some x ∧ w.cell? ⟨g, 1, none⟩ = some y ∧ w.cell? ⟨g + 1, 0, none⟩ = some z ∧ w.cell? ⟨g + 1, 1, none⟩ = some u
theorem four_of {g : Nat} {t t' : TypeId} {x y z u : Value} {w : World} (h1 : Whole w g t #[x, y]) (h2 : Whole w (g + 1) t' #[z, u]) : Four g x y z u w := ⟨h1.cell 0, h1.cell 1, h2.cell 0, h2.cell 1⟩

noncomputable def toOk (xs : List Int) (bs : List Bool) (s : Int) (t : Bool) : Bool := isParty xs s && isState xs.length bs t && (timeST xs xs.length s.toNat (falses xs.length, false) (bs, t)).isSome
noncomputable def toV (xs : List Int) (bs : List Bool) (s : Int) (t : Bool) : Int := if toOk xs bs s t then (timeST xs xs.length s.toNat (falses xs.length, false) (bs, t)).getD 0 else 0
theorem to_none {xs : List Int} {bs : List Bool} {s : Int} {t : Bool} (h : (isParty xs s && isState xs.length bs t) = false) : toOk xs bs s t = false ∧ toV xs bs s t = 0 := by simp [toV, toOk, h]
theorem to_no {xs : List Int} {bs : List Bool} {n q : Nat} {t : Bool} (hx : xs.length = n) (hd : timeST xs n q (falses n, false) (bs, t) = none) : toOk xs bs (q : Int) t = false ∧ toV xs bs (q : Int) t = 0 := by
  subst hx
  have h : toOk xs bs (q : Int) t = false := by simp [toOk, hd]
  exact ⟨h, by rw [toV, h]; rfl⟩
theorem to_yes {xs : List Int} {bs : List Bool} {n q : Nat} {t : Bool} {v : Int} (hx : xs.length = n) (h : (isParty xs (q : Int) && isState n bs t) = true) (hd : timeST xs n q (falses n, false) (bs, t) = some v) : toOk xs bs (q : Int) t = true ∧ toV xs bs (q : Int) t = v := by
  subst hx
  have h2 : toOk xs bs (q : Int) t = true := by simp [toOk, hd, h]
  exact ⟨h2, by rw [toV, h2]; simp [hd]⟩

set_option maxHeartbeats 12800000 in
set_option maxRecDepth 100000 in
set_option linter.unusedVariables false in
set_option linter.unusedSimpArgs false in
theorem specTimeTo_any (A B : Option Addr) (n c m d : Nat) (xs : List Int) (bs : List Bool) (s : Int) (t : Bool) (w : World) (hA0 : Holds w A (nums xs)) (hB0 : Holds w B (bits bs)) (hx : xs.length = n) (hy : bs.length = m) (hn0 : n ≤ 9223372036854775807) (hm0 : m ≤ 9223372036854775807) :
    Calls Try.prog 25 #[.agg #[.slice A n c, .int .i64 s], .agg #[.slice B m d, .bool t]] w fun e w' => e = .returned (.tuple #[.int .i64 (toV xs bs s t), .bool (toOk xs bs s t)]) ∧ Below w.heap.size w w' := by
  have hask := paAsked_any A B n c m d xs bs s t _ ((hA0.alloc (.cells #[.slice A n c, .int .i64 s] 28)).alloc (.cells #[.slice B m d, .bool t] 37)) ((hB0.alloc (.cells #[.slice A n c, .int .i64 s] 28)).alloc (.cells #[.slice B m d, .bool t] 37)) hx hy hn0 hm0
  have HASK := Lib.hid hask
  clear hask
  cases ha : (isParty xs s && isState n bs t)
  · have HV := Lib.hid (to_none (by rw [hx]; exact ha))
    have HT := Lib.hid (below2 w (.cells #[.slice A n c, .int .i64 s] 28) (.cells #[.slice B m d, .bool t] 37))
    have HAA := Lib.hid ha
    clear ha hA0 hB0 hx hy
    go_enter Try.func25, Try.ntmps25
    go_wp2_with fail
    refine HASK.out.mono ?_
    rintro e w1 ⟨rfl, hb⟩
    rw [HAA.out]
    have HT1 := Lib.hid (below_then HT.out hb HT.out.size)
    clear hb
    go_wp2
    go_ret2
    exact ⟨by rw [HV.out.1, HV.out.2]; rfl, HT1.out⟩
  · obtain ⟨hp, hs0⟩ := Bool.and_eq_true_iff.1 ha
    obtain ⟨q, rfl⟩ : ∃ q : Nat, s = (q : Int) := ⟨s.toNat, by simp only [isParty, Bool.and_eq_true, within_iff] at hp; omega⟩
    obtain ⟨h1, hn, gq1, hq8, gxs⟩ := party_parts hp
    rw [hx] at h1 hn
    have hyn : bs.length = n := of_decide_eq_true (Bool.and_eq_true_iff.1 hs0).1
    obtain rfl : m = n := by omega
    have hA := Lib.hid hA0
    have hB := Lib.hid hB0
    have HX := Lib.hid hx
    have HY := Lib.hid hyn
    have HXS := Lib.hid gxs
    have HFL : Hid ((falses m).length = m) := by show _ = _; simp [falses]
    have HTL : Hid ((trues m).length = m) := by show _ = _; simp [trues]
    have HAA := Lib.hid ha
    have hq := (Whole.fresh w 28 #[.slice A m c, .int .i64 (q : Int)]).alloc (.cells #[.slice B m d, .bool t] 37)
    have hs := Whole.fresh (w.alloc (.cells #[.slice A m c, .int .i64 (q : Int)] 28)) 37 #[.slice B m d, .bool t]
    rw [World.size_alloc] at hs
    have ht := below2 w (.cells #[.slice A m c, .int .i64 (q : Int)] 28) (.cells #[.slice B m d, .bool t] 37)
    obtain ⟨v, hv⟩ : ∃ v, (timeST xs m q (falses m, false) (bs, t)).getD (-1) = v := ⟨_, rfl⟩
    have HVV := Lib.hid hv
    have HRES : Hid (Ending.returned (.tuple #[.int .i64 (toV xs bs (q : Int) t), .bool (toOk xs bs (q : Int) t)]) = .returned (.tuple #[.int .i64 (if v < 0 then 0 else v), .bool (!decide (v < 0))])) := by
      show _ = _
      cases hd : timeST xs m q (falses m, false) (bs, t) with
      | none =>
        rw [hd] at hv
        obtain rfl : v = -1 := hv.symm
        rw [(to_no hx hd).1, (to_no hx hd).2]
        rfl
      | some u =>
        rw [hd] at hv
        obtain rfl : u = v := hv
        have h0 := time_low hx (fun y hy => (gxs y hy).1) hd
        rw [(to_yes hx ha hd).1, (to_yes hx ha hd).2, if_neg (by omega)]
        simp [show ¬ u < 0 by omega]
    clear ha hp hs0 gxs hx hy hyn hA0 hB0 hv hn0 hm0
    obtain ⟨n, rfl⟩ : ∃ n, n = m := ⟨_, rfl⟩
    by_cases h0 : v < 0
    · have hd0 : decide (v < 0) = true := by simpa using h0
      rw [hd0, if_pos h0] at HRES
      go_enter Try.func25, Try.ntmps25
      go_wp2_with fail
      refine HASK.out.mono ?_
      rintro e w1 ⟨rfl, hb⟩
      rw [HAA.out]
      replace ht := below_then ht hb ht.size
      replace hq := hq.below hb
      replace hs := hs.below hb
      obtain ⟨k0, k1⟩ := hq.cells2
      have hql := hq.lt
      clear hb HASK
      go_wp2_with fail
      clear k0 k1 hql
      refine wp_region_held_drew (S := (Four w.heap.size (.slice A n c) (.int .i64 (q : Int)) (.slice B n d) (.bool t))) (by kernel_rfl) (four_of hq.drew hs.drew) (fun hHeld => ?_)
      replace hq := hq.drew
      replace hs := hs.drew
      replace ht := ht.drew
      generalize World.drew w1 = wd at hq hs ht hHeld ⊢
      refine wpAnyH_take (i := 0) (v := ?_) rfl (by kernel_rfl) (by kernel_rfl) (by kernel_rfl) (fun _ _ _ h => h) (Or.inl ⟨rfl, ?_⟩) hHeld ?_
      rotate_left
      · intro w' hS; obtain ⟨s0, s1, s2, s3⟩ := hS; go_simp <;> with_reducible rfl
      simp only [Act.put, List.getElem_toArray, List.getElem_cons_succ, List.getElem_cons_zero, List.setIfInBounds_toArray, List.set_cons_succ, List.set_cons_zero]
      refine wpAnyH_take (i := 1) (v := ?_) rfl (by kernel_rfl) (by kernel_rfl) (by kernel_rfl) (fun _ _ _ h => h) (Or.inl ⟨rfl, ?_⟩) hHeld ?_
      rotate_left
      · intro w' hS; obtain ⟨s0, s1, s2, s3⟩ := hS; go_simp <;> with_reducible rfl
      simp only [Act.put, List.getElem_toArray, List.getElem_cons_succ, List.getElem_cons_zero, List.setIfInBounds_toArray, List.set_cons_succ, List.set_cons_zero]
      refine wpAnyH_take (i := 4) (v := ?_) rfl (by kernel_rfl) (by kernel_rfl) (by kernel_rfl) (fun _ _ _ h => h) (Or.inl ⟨rfl, ?_⟩) hHeld ?_
      rotate_left
      · intro w' hS; obtain ⟨s0, s1, s2, s3⟩ := hS; go_simp <;> with_reducible rfl
      simp only [Act.put, List.getElem_toArray, List.getElem_cons_succ, List.getElem_cons_zero, List.setIfInBounds_toArray, List.set_cons_succ, List.set_cons_zero]
      refine wpAnyH_ready (rs := [2]) (by kernel_rfl) (by simp) (AllReadyH.cons rfl (fun K hK => ?_) AllReadyH.nil)
      go_simp
      refine (paFirst_any A n c (q : Int) _ (by omega)).mono ?_
      rintro e wdc ⟨rfl, hw9, hb⟩
      obtain ⟨g1, hg1⟩ : ∃ g, g = wd.heap.size + 1 + 1 := ⟨_, rfl⟩
      rw [← hg1] at hw9 ⊢
      replace hq := hq.below hb
      replace hs := hs.below hb
      replace ht := below_then ht hb ht.size
      clear hb
      have hB1 : Holds wdc (some ⟨g1, 0, none⟩) (bits (falses n)) := (Fresh.of_whole (lo := 0) (hi := wdc.heap.size) hw9 (Nat.zero_le _) hw9.lt).holds
      clear hw9 hg1
      refine hK.out _ _ (four_of hq hs) (fun hHeld => ?_)
      clear hK K
      try simp only [Act.put, List.getElem_toArray, List.getElem_cons_succ, List.getElem_cons_zero, List.setIfInBounds_toArray, List.set_cons_succ, List.set_cons_zero]
      refine wpAnyH_ready (rs := [3]) (by kernel_rfl) (by simp) (AllReadyH.cons rfl (fun K hK => ?_) AllReadyH.nil)
      go_simp
      refine (seFar_any A (some ⟨g1, 0, none⟩) n c n q xs (falses n) false _ (hA.out.below ht) hB1 HX.out HFL.out h1 hn hq8 HXS.out).mono ?_
      rintro e wdcd ⟨g, done, o, rfl, hol, hFr0, hL, hno, hbd, -, hb⟩
      replace hq := hq.below hb
      replace hs := hs.below hb
      replace hB1 := hB1.below hb
      replace ht := below_then ht hb ht.size
      clear hb
      have hFr := hFr0
      have HOL := Lib.hid hol
      have HFA : Hid (o.getD (num bs t.toNat) (-1) = v) := by show _ = _; rw [← HVV.out]; exact far_at (a := (falses n, false)) (b := (bs, t)) HX.out (fun y hy => (HXS.out y hy).1) HFL.out HY.out hL hno (fun i => (hbd i).1)
      clear hFr0 hol hL hno hbd
      refine hK.out _ _ (four_of hq hs) (fun hHeld => ?_)
      clear hK K
      try simp only [Act.put, List.getElem_toArray, List.getElem_cons_succ, List.getElem_cons_zero, List.setIfInBounds_toArray, List.set_cons_succ, List.set_cons_zero]
      refine wpAnyH_ready (rs := [5]) (by kernel_rfl) (by simp) (AllReadyH.cons rfl (fun K hK => ?_) AllReadyH.nil)
      go_simp
      refine (seIndex_any B n d bs t _ (hB.out.below ht) HY.out hn).mono ?_
      rintro e wdcdf ⟨rfl, hb⟩
      obtain ⟨y, hy⟩ : ∃ y, num bs t.toNat = y := ⟨_, rfl⟩
      have HYI := Lib.hid hy
      rw [hy]
      clear hy
      replace hq := hq.below hb
      replace hs := hs.below hb
      replace hB1 := hB1.below hb
      replace hFr := hFr.below hb
      replace ht := below_then ht hb ht.size
      clear hb
      refine hK.out _ _ (four_of hq hs) (fun hHeld => ?_)
      clear hK K
      try simp only [Act.put, List.getElem_toArray, List.getElem_cons_succ, List.getElem_cons_zero, List.setIfInBounds_toArray, List.set_cons_succ, List.set_cons_zero]
      refine wpAnyH_ready (rs := [6]) (by kernel_rfl) (by simp) (AllReadyH.cons rfl (fun K hK => ?_) AllReadyH.nil)
      have HYZ : Hid (y < o.length) := by rw [← HYI.out]; show _ < _; rw [HOL.out]; have h := num_lt bs t; rw [HY.out] at h; exact h
      have hyz := HYZ.out
      have hyz2 : (y : Int) < (o.length : Int) := by omega
      have hfl := hFr.lt
      go_simp
      refine hK.out _ _ (four_of hq hs) (fun hHeld => ?_)
      clear hK K
      try simp only [Act.put, List.getElem_toArray, List.getElem_cons_succ, List.getElem_cons_zero, List.setIfInBounds_toArray, List.set_cons_succ, List.set_cons_zero]
      refine wpAnyH_ready (rs := [7]) (by kernel_rfl) (by simp) (AllReadyH.cons rfl (fun K hK => ?_) AllReadyH.nil)
      have k0 := num_cellF (v := v) hFr (i := y) HYZ.out (by rw [getD_m1 HYZ.out, ← HYI.out]; exact HFA.out)
      go_simp
      refine hK.out _ _ (four_of hq hs) (fun hHeld => ?_)
      clear hK K
      try simp only [Act.put, List.getElem_toArray, List.getElem_cons_succ, List.getElem_cons_zero, List.setIfInBounds_toArray, List.set_cons_succ, List.set_cons_zero]
      refine wpAnyH_take (i := 8) (v := ?_) rfl (by kernel_rfl) (by kernel_rfl) (by kernel_rfl) (fun _ _ _ h => h) (Or.inl ⟨rfl, ?_⟩) hHeld ?_
      rotate_left
      · intro w' hS; obtain ⟨s0, s1, s2, s3⟩ := hS; go_simp <;> with_reducible rfl
      simp only [Act.put, List.getElem_toArray, List.getElem_cons_succ, List.getElem_cons_zero, List.setIfInBounds_toArray, List.set_cons_succ, List.set_cons_zero]
      refine wpAnyH_done (by kernel_rfl) ?_ _
      clear hHeld
      have HTT := Lib.hid ht
      clear ht hq hs hFr hB1
      go_wp2
      go_ret2
      exact ⟨by rw [HRES.out]; rfl, HTT.out⟩
    · have hd0 : decide (v < 0) = false := by simpa using h0
      rw [hd0, if_neg h0] at HRES
      go_enter Try.func25, Try.ntmps25
      go_wp2_with fail
      refine HASK.out.mono ?_
      rintro e w1 ⟨rfl, hb⟩
      rw [HAA.out]
      replace ht := below_then ht hb ht.size
      replace hq := hq.below hb
      replace hs := hs.below hb
      obtain ⟨k0, k1⟩ := hq.cells2
      have hql := hq.lt
      clear hb HASK
      go_wp2_with fail
      clear k0 k1 hql
      refine wp_region_held_drew (S := (Four w.heap.size (.slice A n c) (.int .i64 (q : Int)) (.slice B n d) (.bool t))) (by kernel_rfl) (four_of hq.drew hs.drew) (fun hHeld => ?_)
      replace hq := hq.drew
      replace hs := hs.drew
      replace ht := ht.drew
      generalize World.drew w1 = wd at hq hs ht hHeld ⊢
      refine wpAnyH_take (i := 0) (v := ?_) rfl (by kernel_rfl) (by kernel_rfl) (by kernel_rfl) (fun _ _ _ h => h) (Or.inl ⟨rfl, ?_⟩) hHeld ?_
      rotate_left
      · intro w' hS; obtain ⟨s0, s1, s2, s3⟩ := hS; go_simp <;> with_reducible rfl
      simp only [Act.put, List.getElem_toArray, List.getElem_cons_succ, List.getElem_cons_zero, List.setIfInBounds_toArray, List.set_cons_succ, List.set_cons_zero]
      refine wpAnyH_take (i := 1) (v := ?_) rfl (by kernel_rfl) (by kernel_rfl) (by kernel_rfl) (fun _ _ _ h => h) (Or.inl ⟨rfl, ?_⟩) hHeld ?_
      rotate_left
      · intro w' hS; obtain ⟨s0, s1, s2, s3⟩ := hS; go_simp <;> with_reducible rfl
      simp only [Act.put, List.getElem_toArray, List.getElem_cons_succ, List.getElem_cons_zero, List.setIfInBounds_toArray, List.set_cons_succ, List.set_cons_zero]
      refine wpAnyH_take (i := 4) (v := ?_) rfl (by kernel_rfl) (by kernel_rfl) (by kernel_rfl) (fun _ _ _ h => h) (Or.inl ⟨rfl, ?_⟩) hHeld ?_
      rotate_left
      · intro w' hS; obtain ⟨s0, s1, s2, s3⟩ := hS; go_simp <;> with_reducible rfl
      simp only [Act.put, List.getElem_toArray, List.getElem_cons_succ, List.getElem_cons_zero, List.setIfInBounds_toArray, List.set_cons_succ, List.set_cons_zero]
      refine wpAnyH_ready (rs := [2]) (by kernel_rfl) (by simp) (AllReadyH.cons rfl (fun K hK => ?_) AllReadyH.nil)
      go_simp
      refine (paFirst_any A n c (q : Int) _ (by omega)).mono ?_
      rintro e wdc ⟨rfl, hw9, hb⟩
      obtain ⟨g1, hg1⟩ : ∃ g, g = wd.heap.size + 1 + 1 := ⟨_, rfl⟩
      rw [← hg1] at hw9 ⊢
      replace hq := hq.below hb
      replace hs := hs.below hb
      replace ht := below_then ht hb ht.size
      clear hb
      have hB1 : Holds wdc (some ⟨g1, 0, none⟩) (bits (falses n)) := (Fresh.of_whole (lo := 0) (hi := wdc.heap.size) hw9 (Nat.zero_le _) hw9.lt).holds
      clear hw9 hg1
      refine hK.out _ _ (four_of hq hs) (fun hHeld => ?_)
      clear hK K
      try simp only [Act.put, List.getElem_toArray, List.getElem_cons_succ, List.getElem_cons_zero, List.setIfInBounds_toArray, List.set_cons_succ, List.set_cons_zero]
      refine wpAnyH_ready (rs := [3]) (by kernel_rfl) (by simp) (AllReadyH.cons rfl (fun K hK => ?_) AllReadyH.nil)
      go_simp
      refine (seFar_any A (some ⟨g1, 0, none⟩) n c n q xs (falses n) false _ (hA.out.below ht) hB1 HX.out HFL.out h1 hn hq8 HXS.out).mono ?_
      rintro e wdcd ⟨g, done, o, rfl, hol, hFr0, hL, hno, hbd, -, hb⟩
      replace hq := hq.below hb
      replace hs := hs.below hb
      replace hB1 := hB1.below hb
      replace ht := below_then ht hb ht.size
      clear hb
      have hFr := hFr0
      have HOL := Lib.hid hol
      have HFA : Hid (o.getD (num bs t.toNat) (-1) = v) := by show _ = _; rw [← HVV.out]; exact far_at (a := (falses n, false)) (b := (bs, t)) HX.out (fun y hy => (HXS.out y hy).1) HFL.out HY.out hL hno (fun i => (hbd i).1)
      clear hFr0 hol hL hno hbd
      refine hK.out _ _ (four_of hq hs) (fun hHeld => ?_)
      clear hK K
      try simp only [Act.put, List.getElem_toArray, List.getElem_cons_succ, List.getElem_cons_zero, List.setIfInBounds_toArray, List.set_cons_succ, List.set_cons_zero]
      refine wpAnyH_ready (rs := [5]) (by kernel_rfl) (by simp) (AllReadyH.cons rfl (fun K hK => ?_) AllReadyH.nil)
      go_simp
      refine (seIndex_any B n d bs t _ (hB.out.below ht) HY.out hn).mono ?_
      rintro e wdcdf ⟨rfl, hb⟩
      obtain ⟨y, hy⟩ : ∃ y, num bs t.toNat = y := ⟨_, rfl⟩
      have HYI := Lib.hid hy
      rw [hy]
      clear hy
      replace hq := hq.below hb
      replace hs := hs.below hb
      replace hB1 := hB1.below hb
      replace hFr := hFr.below hb
      replace ht := below_then ht hb ht.size
      clear hb
      refine hK.out _ _ (four_of hq hs) (fun hHeld => ?_)
      clear hK K
      try simp only [Act.put, List.getElem_toArray, List.getElem_cons_succ, List.getElem_cons_zero, List.setIfInBounds_toArray, List.set_cons_succ, List.set_cons_zero]
      refine wpAnyH_ready (rs := [6]) (by kernel_rfl) (by simp) (AllReadyH.cons rfl (fun K hK => ?_) AllReadyH.nil)
      have HYZ : Hid (y < o.length) := by rw [← HYI.out]; show _ < _; rw [HOL.out]; have h := num_lt bs t; rw [HY.out] at h; exact h
      have hyz := HYZ.out
      have hyz2 : (y : Int) < (o.length : Int) := by omega
      have hfl := hFr.lt
      go_simp
      refine hK.out _ _ (four_of hq hs) (fun hHeld => ?_)
      clear hK K
      try simp only [Act.put, List.getElem_toArray, List.getElem_cons_succ, List.getElem_cons_zero, List.setIfInBounds_toArray, List.set_cons_succ, List.set_cons_zero]
      refine wpAnyH_ready (rs := [7]) (by kernel_rfl) (by simp) (AllReadyH.cons rfl (fun K hK => ?_) AllReadyH.nil)
      have k0 := num_cellF (v := v) hFr (i := y) HYZ.out (by rw [getD_m1 HYZ.out, ← HYI.out]; exact HFA.out)
      go_simp
      refine hK.out _ _ (four_of hq hs) (fun hHeld => ?_)
      clear hK K
      try simp only [Act.put, List.getElem_toArray, List.getElem_cons_succ, List.getElem_cons_zero, List.setIfInBounds_toArray, List.set_cons_succ, List.set_cons_zero]
      refine wpAnyH_take (i := 8) (v := ?_) rfl (by kernel_rfl) (by kernel_rfl) (by kernel_rfl) (fun _ _ _ h => h) (Or.inl ⟨rfl, ?_⟩) hHeld ?_
      rotate_left
      · intro w' hS; obtain ⟨s0, s1, s2, s3⟩ := hS; go_simp <;> with_reducible rfl
      simp only [Act.put, List.getElem_toArray, List.getElem_cons_succ, List.getElem_cons_zero, List.setIfInBounds_toArray, List.set_cons_succ, List.set_cons_zero]
      refine wpAnyH_done (by kernel_rfl) ?_ _
      clear hHeld
      have HTT := Lib.hid ht
      clear ht hq hs hFr hB1
      go_wp2
      go_ret2
      exact ⟨by rw [HRES.out]; rfl, HTT.out⟩

noncomputable def frOk (xs : List Int) (bs : List Bool) (s : Int) (t : Bool) : Bool := isParty xs s && isState xs.length bs t && (timeST xs xs.length s.toNat (bs, t) (trues xs.length, true)).isSome
noncomputable def frV (xs : List Int) (bs : List Bool) (s : Int) (t : Bool) : Int := if frOk xs bs s t then (timeST xs xs.length s.toNat (bs, t) (trues xs.length, true)).getD 0 else 0
theorem fr_none {xs : List Int} {bs : List Bool} {s : Int} {t : Bool} (h : (isParty xs s && isState xs.length bs t) = false) : frOk xs bs s t = false ∧ frV xs bs s t = 0 := by simp [frV, frOk, h]
theorem fr_no {xs : List Int} {bs : List Bool} {n q : Nat} {t : Bool} (hx : xs.length = n) (hd : timeST xs n q (bs, t) (trues n, true) = none) : frOk xs bs (q : Int) t = false ∧ frV xs bs (q : Int) t = 0 := by
  subst hx
  have h : frOk xs bs (q : Int) t = false := by simp [frOk, hd]
  exact ⟨h, by rw [frV, h]; rfl⟩
theorem fr_yes {xs : List Int} {bs : List Bool} {n q : Nat} {t : Bool} {v : Int} (hx : xs.length = n) (h : (isParty xs (q : Int) && isState n bs t) = true) (hd : timeST xs n q (bs, t) (trues n, true) = some v) : frOk xs bs (q : Int) t = true ∧ frV xs bs (q : Int) t = v := by
  subst hx
  have h2 : frOk xs bs (q : Int) t = true := by simp [frOk, hd, h]
  exact ⟨h2, by rw [frV, h2]; simp [hd]⟩

set_option maxHeartbeats 12800000 in
set_option maxRecDepth 100000 in
set_option linter.unusedVariables false in
set_option linter.unusedSimpArgs false in
theorem specTimeFrom_any (A B : Option Addr) (n c m d : Nat) (xs : List Int) (bs : List Bool) (s : Int) (t : Bool) (w : World) (hA0 : Holds w A (nums xs)) (hB0 : Holds w B (bits bs)) (hx : xs.length = n) (hy : bs.length = m) (hn0 : n ≤ 9223372036854775807) (hm0 : m ≤ 9223372036854775807) :
    Calls Try.prog 21 #[.agg #[.slice A n c, .int .i64 s], .agg #[.slice B m d, .bool t]] w fun e w' => e = .returned (.tuple #[.int .i64 (frV xs bs s t), .bool (frOk xs bs s t)]) ∧ Below w.heap.size w w' := by
  have hask := paAsked_any A B n c m d xs bs s t _ ((hA0.alloc (.cells #[.slice A n c, .int .i64 s] 28)).alloc (.cells #[.slice B m d, .bool t] 37)) ((hB0.alloc (.cells #[.slice A n c, .int .i64 s] 28)).alloc (.cells #[.slice B m d, .bool t] 37)) hx hy hn0 hm0
  have HASK := Lib.hid hask
  clear hask
  cases ha : (isParty xs s && isState n bs t)
  · have HV := Lib.hid (fr_none (by rw [hx]; exact ha))
    have HT := Lib.hid (below2 w (.cells #[.slice A n c, .int .i64 s] 28) (.cells #[.slice B m d, .bool t] 37))
    have HAA := Lib.hid ha
    clear ha hA0 hB0 hx hy
    go_enter Try.func21, Try.ntmps21
    go_wp2_with fail
    refine HASK.out.mono ?_
    rintro e w1 ⟨rfl, hb⟩
    rw [HAA.out]
    have HT1 := Lib.hid (below_then HT.out hb HT.out.size)
    clear hb
    go_wp2
    go_ret2
    exact ⟨by rw [HV.out.1, HV.out.2]; rfl, HT1.out⟩
  · obtain ⟨hp, hs0⟩ := Bool.and_eq_true_iff.1 ha
    obtain ⟨q, rfl⟩ : ∃ q : Nat, s = (q : Int) := ⟨s.toNat, by simp only [isParty, Bool.and_eq_true, within_iff] at hp; omega⟩
    obtain ⟨h1, hn, gq1, hq8, gxs⟩ := party_parts hp
    rw [hx] at h1 hn
    have hyn : bs.length = n := of_decide_eq_true (Bool.and_eq_true_iff.1 hs0).1
    obtain rfl : m = n := by omega
    have hA := Lib.hid hA0
    have hB := Lib.hid hB0
    have HX := Lib.hid hx
    have HY := Lib.hid hyn
    have HXS := Lib.hid gxs
    have HFL : Hid ((falses m).length = m) := by show _ = _; simp [falses]
    have HTL : Hid ((trues m).length = m) := by show _ = _; simp [trues]
    have HAA := Lib.hid ha
    have hq := (Whole.fresh w 28 #[.slice A m c, .int .i64 (q : Int)]).alloc (.cells #[.slice B m d, .bool t] 37)
    have hs := Whole.fresh (w.alloc (.cells #[.slice A m c, .int .i64 (q : Int)] 28)) 37 #[.slice B m d, .bool t]
    rw [World.size_alloc] at hs
    have ht := below2 w (.cells #[.slice A m c, .int .i64 (q : Int)] 28) (.cells #[.slice B m d, .bool t] 37)
    obtain ⟨v, hv⟩ : ∃ v, (timeST xs m q (bs, t) (trues m, true)).getD (-1) = v := ⟨_, rfl⟩
    have HVV := Lib.hid hv
    have HRES : Hid (Ending.returned (.tuple #[.int .i64 (frV xs bs (q : Int) t), .bool (frOk xs bs (q : Int) t)]) = .returned (.tuple #[.int .i64 (if v < 0 then 0 else v), .bool (!decide (v < 0))])) := by
      show _ = _
      cases hd : timeST xs m q (bs, t) (trues m, true) with
      | none =>
        rw [hd] at hv
        obtain rfl : v = -1 := hv.symm
        rw [(fr_no hx hd).1, (fr_no hx hd).2]
        rfl
      | some u =>
        rw [hd] at hv
        obtain rfl : u = v := hv
        have h0 := time_low hx (fun y hy => (gxs y hy).1) hd
        rw [(fr_yes hx ha hd).1, (fr_yes hx ha hd).2, if_neg (by omega)]
        simp [show ¬ u < 0 by omega]
    clear ha hp hs0 gxs hx hy hyn hA0 hB0 hv hn0 hm0
    obtain ⟨n, rfl⟩ : ∃ n, n = m := ⟨_, rfl⟩
    by_cases h0 : v < 0
    · have hd0 : decide (v < 0) = true := by simpa using h0
      rw [hd0, if_pos h0] at HRES
      go_enter Try.func21, Try.ntmps21
      go_wp2_with fail
      refine HASK.out.mono ?_
      rintro e w1 ⟨rfl, hb⟩
      rw [HAA.out]
      replace ht := below_then ht hb ht.size
      replace hq := hq.below hb
      replace hs := hs.below hb
      obtain ⟨k0, k1⟩ := hq.cells2
      have hql := hq.lt
      clear hb HASK
      go_wp2_with fail
      clear k0 k1 hql
      refine wp_region_held_drew (S := (Four w.heap.size (.slice A n c) (.int .i64 (q : Int)) (.slice B n d) (.bool t))) (by kernel_rfl) (four_of hq.drew hs.drew) (fun hHeld => ?_)
      replace hq := hq.drew
      replace hs := hs.drew
      replace ht := ht.drew
      generalize World.drew w1 = wd at hq hs ht hHeld ⊢
      refine wpAnyH_take (i := 0) (v := ?_) rfl (by kernel_rfl) (by kernel_rfl) (by kernel_rfl) (fun _ _ _ h => h) (Or.inl ⟨rfl, ?_⟩) hHeld ?_
      rotate_left
      · intro w' hS; obtain ⟨s0, s1, s2, s3⟩ := hS; go_simp <;> with_reducible rfl
      simp only [Act.put, List.getElem_toArray, List.getElem_cons_succ, List.getElem_cons_zero, List.setIfInBounds_toArray, List.set_cons_succ, List.set_cons_zero]
      refine wpAnyH_take (i := 1) (v := ?_) rfl (by kernel_rfl) (by kernel_rfl) (by kernel_rfl) (fun _ _ _ h => h) (Or.inl ⟨rfl, ?_⟩) hHeld ?_
      rotate_left
      · intro w' hS; obtain ⟨s0, s1, s2, s3⟩ := hS; go_simp <;> with_reducible rfl
      simp only [Act.put, List.getElem_toArray, List.getElem_cons_succ, List.getElem_cons_zero, List.setIfInBounds_toArray, List.set_cons_succ, List.set_cons_zero]
      refine wpAnyH_take (i := 3) (v := ?_) rfl (by kernel_rfl) (by kernel_rfl) (by kernel_rfl) (fun _ _ _ h => h) (Or.inl ⟨rfl, ?_⟩) hHeld ?_
      rotate_left
      · intro w' hS; obtain ⟨s0, s1, s2, s3⟩ := hS; go_simp <;> with_reducible rfl
      simp only [Act.put, List.getElem_toArray, List.getElem_cons_succ, List.getElem_cons_zero, List.setIfInBounds_toArray, List.set_cons_succ, List.set_cons_zero]
      refine wpAnyH_ready (rs := [2]) (by kernel_rfl) (by simp) (AllReadyH.cons rfl (fun K hK => ?_) AllReadyH.nil)
      go_simp
      refine (seFar_any A B n c d q xs bs t _ (hA.out.below ht) (hB.out.below ht) HX.out HY.out h1 hn hq8 HXS.out).mono ?_
      rintro e wdc ⟨g, done, o, rfl, hol, hFr0, hL, hno, hbd, -, hb⟩
      replace hq := hq.below hb
      replace hs := hs.below hb
      replace ht := below_then ht hb ht.size
      clear hb
      have hFr := hFr0
      have HOL := Lib.hid hol
      have HFA : Hid (o.getD (num (trues n) true.toNat) (-1) = v) := by show _ = _; rw [← HVV.out]; exact far_at (a := (bs, t)) (b := (trues n, true)) HX.out (fun y hy => (HXS.out y hy).1) HY.out HTL.out hL hno (fun i => (hbd i).1)
      clear hFr0 hol hL hno hbd
      refine hK.out _ _ (four_of hq hs) (fun hHeld => ?_)
      clear hK K
      try simp only [Act.put, List.getElem_toArray, List.getElem_cons_succ, List.getElem_cons_zero, List.setIfInBounds_toArray, List.set_cons_succ, List.set_cons_zero]
      refine wpAnyH_ready (rs := [4]) (by kernel_rfl) (by simp) (AllReadyH.cons rfl (fun K hK => ?_) AllReadyH.nil)
      go_simp
      refine (paLast_any A n c (q : Int) _ (by omega)).mono ?_
      rintro e wdce ⟨A2, c2, rfl, hw9, hb⟩
      rw [HTL.out]
      replace hq := hq.below hb
      replace hs := hs.below hb
      replace hFr := hFr.below hb
      replace ht := below_then ht hb ht.size
      clear hb
      have hB1 := hw9.holds
      clear hw9
      refine hK.out _ _ (four_of hq hs) (fun hHeld => ?_)
      clear hK K
      try simp only [Act.put, List.getElem_toArray, List.getElem_cons_succ, List.getElem_cons_zero, List.setIfInBounds_toArray, List.set_cons_succ, List.set_cons_zero]
      refine wpAnyH_ready (rs := [5]) (by kernel_rfl) (by simp) (AllReadyH.cons rfl (fun K hK => ?_) AllReadyH.nil)
      go_simp
      refine (seIndex_any A2 n c2 (trues n) true _ hB1 HTL.out hn).mono ?_
      rintro e wdcef ⟨rfl, hb⟩
      obtain ⟨y, hy⟩ : ∃ y, num (trues n) true.toNat = y := ⟨_, rfl⟩
      have HYI := Lib.hid hy
      rw [hy]
      clear hy
      replace hq := hq.below hb
      replace hs := hs.below hb
      replace hB1 := hB1.below hb
      replace hFr := hFr.below hb
      replace ht := below_then ht hb ht.size
      clear hb
      refine hK.out _ _ (four_of hq hs) (fun hHeld => ?_)
      clear hK K
      try simp only [Act.put, List.getElem_toArray, List.getElem_cons_succ, List.getElem_cons_zero, List.setIfInBounds_toArray, List.set_cons_succ, List.set_cons_zero]
      refine wpAnyH_ready (rs := [6]) (by kernel_rfl) (by simp) (AllReadyH.cons rfl (fun K hK => ?_) AllReadyH.nil)
      have HYZ : Hid (y < o.length) := by rw [← HYI.out]; show _ < _; rw [HOL.out]; have h := num_lt (trues n) true; rw [HTL.out] at h; exact h
      have hyz := HYZ.out
      have hyz2 : (y : Int) < (o.length : Int) := by omega
      have hfl := hFr.lt
      go_simp
      refine hK.out _ _ (four_of hq hs) (fun hHeld => ?_)
      clear hK K
      try simp only [Act.put, List.getElem_toArray, List.getElem_cons_succ, List.getElem_cons_zero, List.setIfInBounds_toArray, List.set_cons_succ, List.set_cons_zero]
      refine wpAnyH_ready (rs := [7]) (by kernel_rfl) (by simp) (AllReadyH.cons rfl (fun K hK => ?_) AllReadyH.nil)
      have k0 := num_cellF (v := v) hFr (i := y) HYZ.out (by rw [getD_m1 HYZ.out, ← HYI.out]; exact HFA.out)
      go_simp
      refine hK.out _ _ (four_of hq hs) (fun hHeld => ?_)
      clear hK K
      try simp only [Act.put, List.getElem_toArray, List.getElem_cons_succ, List.getElem_cons_zero, List.setIfInBounds_toArray, List.set_cons_succ, List.set_cons_zero]
      refine wpAnyH_take (i := 8) (v := ?_) rfl (by kernel_rfl) (by kernel_rfl) (by kernel_rfl) (fun _ _ _ h => h) (Or.inl ⟨rfl, ?_⟩) hHeld ?_
      rotate_left
      · intro w' hS; obtain ⟨s0, s1, s2, s3⟩ := hS; go_simp <;> with_reducible rfl
      simp only [Act.put, List.getElem_toArray, List.getElem_cons_succ, List.getElem_cons_zero, List.setIfInBounds_toArray, List.set_cons_succ, List.set_cons_zero]
      refine wpAnyH_done (by kernel_rfl) ?_ _
      clear hHeld
      have HTT := Lib.hid ht
      clear ht hq hs hFr hB1
      go_wp2
      go_ret2
      exact ⟨by rw [HRES.out]; rfl, HTT.out⟩
    · have hd0 : decide (v < 0) = false := by simpa using h0
      rw [hd0, if_neg h0] at HRES
      go_enter Try.func21, Try.ntmps21
      go_wp2_with fail
      refine HASK.out.mono ?_
      rintro e w1 ⟨rfl, hb⟩
      rw [HAA.out]
      replace ht := below_then ht hb ht.size
      replace hq := hq.below hb
      replace hs := hs.below hb
      obtain ⟨k0, k1⟩ := hq.cells2
      have hql := hq.lt
      clear hb HASK
      go_wp2_with fail
      clear k0 k1 hql
      refine wp_region_held_drew (S := (Four w.heap.size (.slice A n c) (.int .i64 (q : Int)) (.slice B n d) (.bool t))) (by kernel_rfl) (four_of hq.drew hs.drew) (fun hHeld => ?_)
      replace hq := hq.drew
      replace hs := hs.drew
      replace ht := ht.drew
      generalize World.drew w1 = wd at hq hs ht hHeld ⊢
      refine wpAnyH_take (i := 0) (v := ?_) rfl (by kernel_rfl) (by kernel_rfl) (by kernel_rfl) (fun _ _ _ h => h) (Or.inl ⟨rfl, ?_⟩) hHeld ?_
      rotate_left
      · intro w' hS; obtain ⟨s0, s1, s2, s3⟩ := hS; go_simp <;> with_reducible rfl
      simp only [Act.put, List.getElem_toArray, List.getElem_cons_succ, List.getElem_cons_zero, List.setIfInBounds_toArray, List.set_cons_succ, List.set_cons_zero]
      refine wpAnyH_take (i := 1) (v := ?_) rfl (by kernel_rfl) (by kernel_rfl) (by kernel_rfl) (fun _ _ _ h => h) (Or.inl ⟨rfl, ?_⟩) hHeld ?_
      rotate_left
      · intro w' hS; obtain ⟨s0, s1, s2, s3⟩ := hS; go_simp <;> with_reducible rfl
      simp only [Act.put, List.getElem_toArray, List.getElem_cons_succ, List.getElem_cons_zero, List.setIfInBounds_toArray, List.set_cons_succ, List.set_cons_zero]
      refine wpAnyH_take (i := 3) (v := ?_) rfl (by kernel_rfl) (by kernel_rfl) (by kernel_rfl) (fun _ _ _ h => h) (Or.inl ⟨rfl, ?_⟩) hHeld ?_
      rotate_left
      · intro w' hS; obtain ⟨s0, s1, s2, s3⟩ := hS; go_simp <;> with_reducible rfl
      simp only [Act.put, List.getElem_toArray, List.getElem_cons_succ, List.getElem_cons_zero, List.setIfInBounds_toArray, List.set_cons_succ, List.set_cons_zero]
      refine wpAnyH_ready (rs := [2]) (by kernel_rfl) (by simp) (AllReadyH.cons rfl (fun K hK => ?_) AllReadyH.nil)
      go_simp
      refine (seFar_any A B n c d q xs bs t _ (hA.out.below ht) (hB.out.below ht) HX.out HY.out h1 hn hq8 HXS.out).mono ?_
      rintro e wdc ⟨g, done, o, rfl, hol, hFr0, hL, hno, hbd, -, hb⟩
      replace hq := hq.below hb
      replace hs := hs.below hb
      replace ht := below_then ht hb ht.size
      clear hb
      have hFr := hFr0
      have HOL := Lib.hid hol
      have HFA : Hid (o.getD (num (trues n) true.toNat) (-1) = v) := by show _ = _; rw [← HVV.out]; exact far_at (a := (bs, t)) (b := (trues n, true)) HX.out (fun y hy => (HXS.out y hy).1) HY.out HTL.out hL hno (fun i => (hbd i).1)
      clear hFr0 hol hL hno hbd
      refine hK.out _ _ (four_of hq hs) (fun hHeld => ?_)
      clear hK K
      try simp only [Act.put, List.getElem_toArray, List.getElem_cons_succ, List.getElem_cons_zero, List.setIfInBounds_toArray, List.set_cons_succ, List.set_cons_zero]
      refine wpAnyH_ready (rs := [4]) (by kernel_rfl) (by simp) (AllReadyH.cons rfl (fun K hK => ?_) AllReadyH.nil)
      go_simp
      refine (paLast_any A n c (q : Int) _ (by omega)).mono ?_
      rintro e wdce ⟨A2, c2, rfl, hw9, hb⟩
      rw [HTL.out]
      replace hq := hq.below hb
      replace hs := hs.below hb
      replace hFr := hFr.below hb
      replace ht := below_then ht hb ht.size
      clear hb
      have hB1 := hw9.holds
      clear hw9
      refine hK.out _ _ (four_of hq hs) (fun hHeld => ?_)
      clear hK K
      try simp only [Act.put, List.getElem_toArray, List.getElem_cons_succ, List.getElem_cons_zero, List.setIfInBounds_toArray, List.set_cons_succ, List.set_cons_zero]
      refine wpAnyH_ready (rs := [5]) (by kernel_rfl) (by simp) (AllReadyH.cons rfl (fun K hK => ?_) AllReadyH.nil)
      go_simp
      refine (seIndex_any A2 n c2 (trues n) true _ hB1 HTL.out hn).mono ?_
      rintro e wdcef ⟨rfl, hb⟩
      obtain ⟨y, hy⟩ : ∃ y, num (trues n) true.toNat = y := ⟨_, rfl⟩
      have HYI := Lib.hid hy
      rw [hy]
      clear hy
      replace hq := hq.below hb
      replace hs := hs.below hb
      replace hB1 := hB1.below hb
      replace hFr := hFr.below hb
      replace ht := below_then ht hb ht.size
      clear hb
      refine hK.out _ _ (four_of hq hs) (fun hHeld => ?_)
      clear hK K
      try simp only [Act.put, List.getElem_toArray, List.getElem_cons_succ, List.getElem_cons_zero, List.setIfInBounds_toArray, List.set_cons_succ, List.set_cons_zero]
      refine wpAnyH_ready (rs := [6]) (by kernel_rfl) (by simp) (AllReadyH.cons rfl (fun K hK => ?_) AllReadyH.nil)
      have HYZ : Hid (y < o.length) := by rw [← HYI.out]; show _ < _; rw [HOL.out]; have h := num_lt (trues n) true; rw [HTL.out] at h; exact h
      have hyz := HYZ.out
      have hyz2 : (y : Int) < (o.length : Int) := by omega
      have hfl := hFr.lt
      go_simp
      refine hK.out _ _ (four_of hq hs) (fun hHeld => ?_)
      clear hK K
      try simp only [Act.put, List.getElem_toArray, List.getElem_cons_succ, List.getElem_cons_zero, List.setIfInBounds_toArray, List.set_cons_succ, List.set_cons_zero]
      refine wpAnyH_ready (rs := [7]) (by kernel_rfl) (by simp) (AllReadyH.cons rfl (fun K hK => ?_) AllReadyH.nil)
      have k0 := num_cellF (v := v) hFr (i := y) HYZ.out (by rw [getD_m1 HYZ.out, ← HYI.out]; exact HFA.out)
      go_simp
      refine hK.out _ _ (four_of hq hs) (fun hHeld => ?_)
      clear hK K
      try simp only [Act.put, List.getElem_toArray, List.getElem_cons_succ, List.getElem_cons_zero, List.setIfInBounds_toArray, List.set_cons_succ, List.set_cons_zero]
      refine wpAnyH_take (i := 8) (v := ?_) rfl (by kernel_rfl) (by kernel_rfl) (by kernel_rfl) (fun _ _ _ h => h) (Or.inl ⟨rfl, ?_⟩) hHeld ?_
      rotate_left
      · intro w' hS; obtain ⟨s0, s1, s2, s3⟩ := hS; go_simp <;> with_reducible rfl
      simp only [Act.put, List.getElem_toArray, List.getElem_cons_succ, List.getElem_cons_zero, List.setIfInBounds_toArray, List.set_cons_succ, List.set_cons_zero]
      refine wpAnyH_done (by kernel_rfl) ?_ _
      clear hHeld
      have HTT := Lib.hid ht
      clear ht hq hs hFr hB1
      go_wp2
      go_ret2
      exact ⟨by rw [HRES.out]; rfl, HTT.out⟩
end Go.Proofs.Ytcikimjpjebflaa

namespace Go.Proofs.Ytcikimjpjebflaa
open Go.RowKit Go.Maps Go.WideShapes

def TwoNine (g : Nat) (a b : Value) (h x : Nat) (w : World) : Prop := Two g a b w ∧ Nine0 h 4 x w
theorem twonine_of {g h x : Nat} {t t' : TypeId} {a b : Value} {w : World} (h1 : Whole w g t #[a, b]) (h2 : Whole w h t' (plcC 4 x)) : TwoNine g a b h x w := ⟨two_of h1, nine0_of h2⟩

set_option maxHeartbeats 6400000 in
set_option maxRecDepth 100000 in
theorem timesTo_any (A : Option Addr) (n c q : Nat) (xs : List Int) (w : World) (hA0 : Holds w A (nums xs)) (hx : xs.length = n) (h1 : 1 ≤ n) (hn : n ≤ 8) (hq8 : q ≤ 8) (hxs : ∀ y ∈ xs, 1 ≤ y ∧ y ≤ 1000) :
    Calls Try.prog 78 #[.agg #[.slice A n c, .int .i64 (q : Int)]] w (TimesPost (partyD xs n q 0) w) := by
  have HA := Lib.hid (hA0.alloc (.cells #[.slice A n c, .int .i64 (q : Int)] 28))
  have HX := Lib.hid hx
  have HLS := Lib.hid (upLists_small (n := n) (m := q) hn)
  have HUP : Hid (∀ l ∈ upLists n q, l ∈ upLists (2 * 4) (2 * 4)) := fun l hl => up_wide (up_all hl) (by omega)
  have HTT : Hid (∀ l ∈ upLists n q, 1 ≤ slowOf xs l ∧ slowOf xs l ≤ 1000000) := fun l hl => by
    have h2 := (slow_boundF (l := l) (fun y hy => (hxs y hy).1) (fun y hy => (hxs y hy).2)).2
    exact ⟨slow_one hx (fun y hy => (hxs y hy).1) hl, by omega⟩
  have HT := Lib.hid (below1 w (.cells #[.slice A n c, .int .i64 (q : Int)] 28))
  clear hA0 hx hxs
  go_enter Try.func78, Try.ntmps78
  go_wp2_with fail
  refine (legsOf_any A n c q xs _ HA.out HX.out hn hq8).mono ?_
  rintro e w1 ⟨E, cE, rfl, hown, hb⟩
  have HT1 := Lib.hid (below_then HT.out hb HT.out.size)
  have HO1 := Lib.hid hown
  clear hb hown
  go_wp2_with fail
  refine (onwardBy_any (slowOf xs) _ E cE (upLists n q) w1 HO1.out).mono ?_
  rintro e w2 ⟨gB, rfl, hfn, hb⟩
  have HT2 := Lib.hid (below_then HT1.out hb HT1.out.size)
  have HF2 := Lib.hid (hfn.below (below1 w2 (.cells #[.bool false, .bool false, .bool false, .bool false, .bool false, .bool false, .bool false, .bool false, .bool false] 83)))
  have HT3 := Lib.hid (HT2.out.alloc HT2.out.size (.cells #[.bool false, .bool false, .bool false, .bool false, .bool false, .bool false, .bool false, .bool false, .bool false] 83))
  have hrow : Whole (w2.alloc (.cells #[.bool false, .bool false, .bool false, .bool false, .bool false, .bool false, .bool false, .bool false, .bool false] 83)) w2.heap.size 83 (plcC 4 0) := Whole.fresh _ _ _
  have HLT := Lib.hid (leastTimes_any (slowOf xs) gB _ w2.heap.size E cE (upLists n q) 0 _ HF2.out HLS.out HUP.out HTT.out zero_mem4 hrow)
  clear hb hfn hrow
  unfold arrFnV at HLT
  unfold arrFnV
  go_wp2_with fail
  refine HLT.out.mono ?_
  rintro e w3 ⟨mb, rfl, hmap, hb⟩
  have HT4 := Lib.hid (below_then HT3.out hb HT3.out.size)
  have HM := Lib.hid hmap
  clear hb hmap
  go_wp2
  go_ret
  exact ⟨mb, rfl, HM.out, HT4.out⟩

set_option maxHeartbeats 12800000 in
set_option maxRecDepth 100000 in
set_option linter.unusedVariables false in
set_option linter.unusedSimpArgs false in
theorem implTimeTo_any (A B : Option Addr) (n c m d : Nat) (xs : List Int) (bs : List Bool) (s : Int) (t : Bool) (w : World) (hA0 : Holds w A (nums xs)) (hB0 : Holds w B (bits bs)) (hx : xs.length = n) (hy : bs.length = m) (hn0 : n ≤ 9223372036854775807) (hm0 : m ≤ 9223372036854775807) :
    Calls Try.prog 26 #[.agg #[.slice A n c, .int .i64 s], .agg #[.slice B m d, .bool t]] w fun e w' => e = .returned (.tuple #[.int .i64 (toV xs bs s t), .bool (toOk xs bs s t)]) ∧ Below w.heap.size w w' := by
  have hpp := partyPlace_any A B n c m d xs bs s t _ ((hA0.alloc (.cells #[.slice A n c, .int .i64 s] 28)).alloc (.cells #[.slice B m d, .bool t] 37)) ((hB0.alloc (.cells #[.slice A n c, .int .i64 s] 28)).alloc (.cells #[.slice B m d, .bool t] 37)) hx hy hn0 hm0
  have HPP := Lib.hid hpp
  clear hpp
  cases ha : (isParty xs s && isState n bs t)
  · have HV := Lib.hid (to_none (by rw [hx]; exact ha))
    have HT := Lib.hid (below2 w (.cells #[.slice A n c, .int .i64 s] 28) (.cells #[.slice B m d, .bool t] 37))
    have HAA := Lib.hid ha
    clear ha hA0 hB0 hx hy
    go_enter Try.func26, Try.ntmps26
    go_wp2_with fail
    refine HPP.out.mono ?_
    rintro e w1 ⟨h9, hb⟩
    obtain rfl : e = .returned (.tuple #[.agg (placeCells [] false), .bool false]) := by
      rcases h9 with ⟨h, -⟩ | ⟨-, h⟩
      · rw [HAA.out] at h; cases h
      · exact h
    have HT1 := Lib.hid (below_then HT.out hb HT.out.size)
    have HT2 := Lib.hid (HT1.out.alloc HT1.out.size (.cells #[.bool false, .bool false, .bool false, .bool false, .bool false, .bool false, .bool false, .bool false, .bool false] 83))
    clear hb h9
    rw [show placeCells [] false = #[.bool false, .bool false, .bool false, .bool false, .bool false, .bool false, .bool false, .bool false, .bool false] from rfl]
    go_wp2
    go_ret2
    exact ⟨by rw [HV.out.1, HV.out.2]; rfl, HT2.out⟩
  · obtain ⟨hp, hs0⟩ := Bool.and_eq_true_iff.1 ha
    obtain ⟨q, rfl⟩ : ∃ q : Nat, s = (q : Int) := ⟨s.toNat, by simp only [isParty, Bool.and_eq_true, within_iff] at hp; omega⟩
    obtain ⟨h1, hn, gq1, hq8, gxs⟩ := party_parts hp
    rw [hx] at h1 hn
    have hyn : bs.length = n := of_decide_eq_true (Bool.and_eq_true_iff.1 hs0).1
    have hA := Lib.hid hA0
    have HX := Lib.hid hx
    have HXS := Lib.hid gxs
    have HAA := Lib.hid ha
    have HPC : Hid (placeCells bs t = plcC 4 (codeOf bs t)) := place_code (by omega)
    have HXD := Lib.hid (code_mem (bs := bs) (t := t) (by omega))
    have hat : partyD xs n q 0 (codeOf bs t) = timeST xs n q (falses n, false) (bs, t) := by
      have h := party_at (xs := xs) (n := n) (q := q) (a := (falses n, false)) (b := (bs, t)) hx hn (fun y hy => (gxs y hy).1) (by simp [falses]) hyn
      rw [show codeOf (falses n, false).1 (falses n, false).2 = 0 from code_none n] at h
      exact h
    obtain ⟨x, hxx⟩ : ∃ x, codeOf bs t = x := ⟨_, rfl⟩
    rw [hxx] at HPC HXD hat
    have HMX : Hid ((partyD xs n q 0 x).getD 0 = toV xs bs (q : Int) t ∧ (partyD xs n q 0 x).isSome = toOk xs bs (q : Int) t) := by
      show _ ∧ _
      rw [hat]
      cases hd : timeST xs n q (falses n, false) (bs, t) with
      | none => rw [(to_no hx hd).1, (to_no hx hd).2]; exact ⟨rfl, rfl⟩
      | some u => rw [(to_yes hx ha hd).1, (to_yes hx ha hd).2]; exact ⟨rfl, rfl⟩
    have hq := (Whole.fresh w 28 #[.slice A n c, .int .i64 (q : Int)]).alloc (.cells #[.slice B m d, .bool t] 37)
    have ht := below2 w (.cells #[.slice A n c, .int .i64 (q : Int)] 28) (.cells #[.slice B m d, .bool t] 37)
    clear ha hp hs0 gxs hx hy hyn hA0 hB0 hxx hat hn0 hm0
    obtain ⟨V9, hV9⟩ : ∃ V9, toV xs bs (q : Int) t = V9 := ⟨_, rfl⟩
    obtain ⟨B9, hB9⟩ : ∃ B9, toOk xs bs (q : Int) t = B9 := ⟨_, rfl⟩
    rw [hV9, hB9] at HMX ⊢
    clear hV9 hB9
    go_enter Try.func26, Try.ntmps26
    go_wp2_with fail
    refine HPP.out.mono ?_
    rintro e w1 ⟨h9, hb⟩
    obtain rfl : e = .returned (.tuple #[.agg (plcC 4 x), .bool true]) := by
      rcases h9 with ⟨-, h⟩ | ⟨h, -⟩
      · rw [h, HPC.out]
      · rw [HAA.out] at h; cases h
    have ht1 := below_then ht hb ht.size
    replace ht := ht1.alloc ht1.size (.cells #[.bool (pf 4 x 0), .bool (pf 4 x 1), .bool (pf 4 x 2), .bool (pf 4 x 3), .bool (pf 4 x 4), .bool (pf 4 x 5), .bool (pf 4 x 6), .bool (pf 4 x 7), .bool (pt x)] 83)
    replace hq := (hq.below hb).alloc (.cells #[.bool (pf 4 x 0), .bool (pf 4 x 1), .bool (pf 4 x 2), .bool (pf 4 x 3), .bool (pf 4 x 4), .bool (pf 4 x 5), .bool (pf 4 x 6), .bool (pf 4 x 7), .bool (pt x)] 83)
    have hx1 : Whole (w1.alloc (.cells #[.bool (pf 4 x 0), .bool (pf 4 x 1), .bool (pf 4 x 2), .bool (pf 4 x 3), .bool (pf 4 x 4), .bool (pf 4 x 5), .bool (pf 4 x 6), .bool (pf 4 x 7), .bool (pt x)] 83)) w1.heap.size 83 (plcC 4 x) := Whole.fresh _ _ _
    clear hb h9 ht1 HPP
    unfold plcC place9
    go_wp2_with fail
    refine wp_region_held_drew (S := (TwoNine w.heap.size (.slice A n c) (.int .i64 (q : Int)) w1.heap.size x)) (by kernel_rfl) (twonine_of hq.drew hx1.drew) (fun hHeld => ?_)
    replace hq := hq.drew
    replace hx1 := hx1.drew
    replace ht := ht.drew
    generalize World.drew (w1.alloc (.cells #[.bool (pf 4 x 0), .bool (pf 4 x 1), .bool (pf 4 x 2), .bool (pf 4 x 3), .bool (pf 4 x 4), .bool (pf 4 x 5), .bool (pf 4 x 6), .bool (pf 4 x 7), .bool (pt x)] 83)) = wd at hq hx1 ht hHeld ⊢
    refine wpAnyH_take (i := 0) (v := ?_) rfl (by kernel_rfl) (by kernel_rfl) (by kernel_rfl) (fun _ _ _ h => h) (Or.inl ⟨rfl, ?_⟩) hHeld ?_
    rotate_left
    · intro w' hS; obtain ⟨⟨s0, s1⟩, n0, n1, n2, n3, n4, n5, n6, n7, n8⟩ := hS; go_simp <;> with_reducible rfl
    simp only [Act.put, List.getElem_toArray, List.getElem_cons_succ, List.getElem_cons_zero, List.setIfInBounds_toArray, List.set_cons_succ, List.set_cons_zero]
    refine wpAnyH_take (i := 2) (v := ?_) rfl (by kernel_rfl) (by kernel_rfl) (by kernel_rfl) (fun _ _ _ h => h) (Or.inl ⟨rfl, ?_⟩) hHeld ?_
    rotate_left
    · intro w' hS; obtain ⟨⟨s0, s1⟩, n0, n1, n2, n3, n4, n5, n6, n7, n8⟩ := hS; go_simp <;> with_reducible rfl
    simp only [Act.put, List.getElem_toArray, List.getElem_cons_succ, List.getElem_cons_zero, List.setIfInBounds_toArray, List.set_cons_succ, List.set_cons_zero]
    refine wpAnyH_ready (rs := [1]) (by kernel_rfl) (by simp) (AllReadyH.cons rfl (fun K hK => ?_) AllReadyH.nil)
    go_simp
    refine (timesTo_any A n c q xs _ (hA.out.below ht) HX.out h1 hn hq8 HXS.out).mono ?_
    rintro e wdb ⟨mb, rfl, hmap, hb⟩
    replace hq := hq.below hb
    replace hx1 := hx1.below hb
    replace ht := below_then ht hb ht.size
    clear hb
    refine hK.out _ _ (twonine_of hq hx1) (fun hHeld => ?_)
    clear hK K
    try simp only [Act.put, List.getElem_toArray, List.getElem_cons_succ, List.getElem_cons_zero, List.setIfInBounds_toArray, List.set_cons_succ, List.set_cons_zero]
    refine wpAnyH_ready (rs := [3]) (by kernel_rfl) (by simp) (AllReadyH.cons rfl (fun K hK => ?_) AllReadyH.nil)
    have hlk := MapIs.look_ok hmap (place_keys (by omega)) Try.underlying84 Try.underlying3 (hzero _) x HXD.out
    rw [HMX.out.1, HMX.out.2] at hlk
    unfold plc plcC place9 at hlk
    go_simp
    refine hK.out _ _ (twonine_of hq hx1) (fun hHeld => ?_)
    clear hK K
    try simp only [Act.put, List.getElem_toArray, List.getElem_cons_succ, List.getElem_cons_zero, List.setIfInBounds_toArray, List.set_cons_succ, List.set_cons_zero]
    refine wpAnyH_take (i := 4) (v := ?_) rfl (by kernel_rfl) (by kernel_rfl) (by kernel_rfl) (fun _ _ _ h => h) (Or.inl ⟨rfl, ?_⟩) hHeld ?_
    rotate_left
    · intro w' hS; obtain ⟨⟨s0, s1⟩, n0, n1, n2, n3, n4, n5, n6, n7, n8⟩ := hS; go_simp <;> with_reducible rfl
    simp only [Act.put, List.getElem_toArray, List.getElem_cons_succ, List.getElem_cons_zero, List.setIfInBounds_toArray, List.set_cons_succ, List.set_cons_zero]
    refine wpAnyH_take (i := 5) (v := ?_) rfl (by kernel_rfl) (by kernel_rfl) (by kernel_rfl) (fun _ _ _ h => h) (Or.inl ⟨rfl, ?_⟩) hHeld ?_
    rotate_left
    · intro w' hS; obtain ⟨⟨s0, s1⟩, n0, n1, n2, n3, n4, n5, n6, n7, n8⟩ := hS; go_simp <;> with_reducible rfl
    simp only [Act.put, List.getElem_toArray, List.getElem_cons_succ, List.getElem_cons_zero, List.setIfInBounds_toArray, List.set_cons_succ, List.set_cons_zero]
    refine wpAnyH_take (i := 6) (v := ?_) rfl (by kernel_rfl) (by kernel_rfl) (by kernel_rfl) (fun _ _ _ h => h) (Or.inl ⟨rfl, ?_⟩) hHeld ?_
    rotate_left
    · intro w' hS; obtain ⟨⟨s0, s1⟩, n0, n1, n2, n3, n4, n5, n6, n7, n8⟩ := hS; go_simp <;> with_reducible rfl
    simp only [Act.put, List.getElem_toArray, List.getElem_cons_succ, List.getElem_cons_zero, List.setIfInBounds_toArray, List.set_cons_succ, List.set_cons_zero]
    refine wpAnyH_take (i := 7) (v := ?_) rfl (by kernel_rfl) (by kernel_rfl) (by kernel_rfl) (fun _ _ _ h => h) (Or.inl ⟨rfl, ?_⟩) hHeld ?_
    rotate_left
    · intro w' hS; obtain ⟨⟨s0, s1⟩, n0, n1, n2, n3, n4, n5, n6, n7, n8⟩ := hS; go_simp <;> with_reducible rfl
    simp only [Act.put, List.getElem_toArray, List.getElem_cons_succ, List.getElem_cons_zero, List.setIfInBounds_toArray, List.set_cons_succ, List.set_cons_zero]
    refine wpAnyH_take (i := 8) (v := ?_) rfl (by kernel_rfl) (by kernel_rfl) (by kernel_rfl) (fun _ _ _ h => h) (Or.inl ⟨rfl, ?_⟩) hHeld ?_
    rotate_left
    · intro w' hS; obtain ⟨⟨s0, s1⟩, n0, n1, n2, n3, n4, n5, n6, n7, n8⟩ := hS; go_simp <;> with_reducible rfl
    simp only [Act.put, List.getElem_toArray, List.getElem_cons_succ, List.getElem_cons_zero, List.setIfInBounds_toArray, List.set_cons_succ, List.set_cons_zero]
    refine wpAnyH_done (by kernel_rfl) ?_ _
    clear hHeld
    have HTT := Lib.hid ht
    clear ht hq hx1 hmap
    go_wp2
    go_ret2
    exact ⟨rfl, HTT.out⟩

set_option maxHeartbeats 12800000 in
set_option maxRecDepth 100000 in
set_option linter.unusedVariables false in
set_option linter.unusedSimpArgs false in
theorem implTimeFrom_any (A B : Option Addr) (n c m d : Nat) (xs : List Int) (bs : List Bool) (s : Int) (t : Bool) (w : World) (hA0 : Holds w A (nums xs)) (hB0 : Holds w B (bits bs)) (hx : xs.length = n) (hy : bs.length = m) (hn0 : n ≤ 9223372036854775807) (hm0 : m ≤ 9223372036854775807) :
    Calls Try.prog 23 #[.agg #[.slice A n c, .int .i64 s], .agg #[.slice B m d, .bool t]] w fun e w' => e = .returned (.tuple #[.int .i64 (frV xs bs s t), .bool (frOk xs bs s t)]) ∧ Below w.heap.size w w' := by
  have hpp := partyPlace_any A B n c m d xs bs s t _ ((hA0.alloc (.cells #[.slice A n c, .int .i64 s] 28)).alloc (.cells #[.slice B m d, .bool t] 37)) ((hB0.alloc (.cells #[.slice A n c, .int .i64 s] 28)).alloc (.cells #[.slice B m d, .bool t] 37)) hx hy hn0 hm0
  have HPP := Lib.hid hpp
  clear hpp
  cases ha : (isParty xs s && isState n bs t)
  · have HV := Lib.hid (fr_none (by rw [hx]; exact ha))
    have HT := Lib.hid (below2 w (.cells #[.slice A n c, .int .i64 s] 28) (.cells #[.slice B m d, .bool t] 37))
    have HAA := Lib.hid ha
    clear ha hA0 hB0 hx hy
    go_enter Try.func23, Try.ntmps23
    go_wp2_with fail
    refine HPP.out.mono ?_
    rintro e w1 ⟨h9, hb⟩
    obtain rfl : e = .returned (.tuple #[.agg (placeCells [] false), .bool false]) := by
      rcases h9 with ⟨h, -⟩ | ⟨-, h⟩
      · rw [HAA.out] at h; cases h
      · exact h
    have HT1 := Lib.hid (below_then HT.out hb HT.out.size)
    have HT2 := Lib.hid (HT1.out.alloc HT1.out.size (.cells #[.bool false, .bool false, .bool false, .bool false, .bool false, .bool false, .bool false, .bool false, .bool false] 83))
    clear hb h9
    rw [show placeCells [] false = #[.bool false, .bool false, .bool false, .bool false, .bool false, .bool false, .bool false, .bool false, .bool false] from rfl]
    go_wp2
    go_ret2
    exact ⟨by rw [HV.out.1, HV.out.2]; rfl, HT2.out⟩
  · obtain ⟨hp, hs0⟩ := Bool.and_eq_true_iff.1 ha
    obtain ⟨q, rfl⟩ : ∃ q : Nat, s = (q : Int) := ⟨s.toNat, by simp only [isParty, Bool.and_eq_true, within_iff] at hp; omega⟩
    obtain ⟨h1, hn, gq1, hq8, gxs⟩ := party_parts hp
    rw [hx] at h1 hn
    have hyn : bs.length = n := of_decide_eq_true (Bool.and_eq_true_iff.1 hs0).1
    have hA := Lib.hid hA0
    have HX := Lib.hid hx
    have HXS := Lib.hid gxs
    have HAA := Lib.hid ha
    have HPC : Hid (placeCells bs t = plcC 4 (codeOf bs t)) := place_code (by omega)
    have HXD := Lib.hid (code_mem (bs := bs) (t := t) (by omega))
    have hat : partyD xs n q (codeOf (trues n) true) (codeOf bs t) = timeST xs n q (bs, t) (trues n, true) := by
      have h := party_at (xs := xs) (n := n) (q := q) (a := (trues n, true)) (b := (bs, t)) hx hn (fun y hy => (gxs y hy).1) (by simp [trues]) hyn
      exact h.trans (time_turn hx (fun y hy => (gxs y hy).1))
    obtain ⟨x, hxx⟩ : ∃ x, codeOf bs t = x := ⟨_, rfl⟩
    rw [hxx] at HPC HXD hat
    have HMX : Hid ((partyD xs n q (codeOf (trues n) true) x).getD 0 = frV xs bs (q : Int) t ∧ (partyD xs n q (codeOf (trues n) true) x).isSome = frOk xs bs (q : Int) t) := by
      show _ ∧ _
      rw [hat]
      cases hd : timeST xs n q (bs, t) (trues n, true) with
      | none => rw [(fr_no hx hd).1, (fr_no hx hd).2]; exact ⟨rfl, rfl⟩
      | some u => rw [(fr_yes hx ha hd).1, (fr_yes hx ha hd).2]; exact ⟨rfl, rfl⟩
    have hq := (Whole.fresh w 28 #[.slice A n c, .int .i64 (q : Int)]).alloc (.cells #[.slice B m d, .bool t] 37)
    have ht := below2 w (.cells #[.slice A n c, .int .i64 (q : Int)] 28) (.cells #[.slice B m d, .bool t] 37)
    clear ha hp hs0 gxs hx hy hyn hA0 hB0 hxx hat hn0 hm0
    obtain ⟨V9, hV9⟩ : ∃ V9, frV xs bs (q : Int) t = V9 := ⟨_, rfl⟩
    obtain ⟨B9, hB9⟩ : ∃ B9, frOk xs bs (q : Int) t = B9 := ⟨_, rfl⟩
    rw [hV9, hB9] at HMX ⊢
    clear hV9 hB9
    go_enter Try.func23, Try.ntmps23
    go_wp2_with fail
    refine HPP.out.mono ?_
    rintro e w1 ⟨h9, hb⟩
    obtain rfl : e = .returned (.tuple #[.agg (plcC 4 x), .bool true]) := by
      rcases h9 with ⟨-, h⟩ | ⟨h, -⟩
      · rw [h, HPC.out]
      · rw [HAA.out] at h; cases h
    have ht1 := below_then ht hb ht.size
    replace ht := ht1.alloc ht1.size (.cells #[.bool (pf 4 x 0), .bool (pf 4 x 1), .bool (pf 4 x 2), .bool (pf 4 x 3), .bool (pf 4 x 4), .bool (pf 4 x 5), .bool (pf 4 x 6), .bool (pf 4 x 7), .bool (pt x)] 83)
    replace hq := (hq.below hb).alloc (.cells #[.bool (pf 4 x 0), .bool (pf 4 x 1), .bool (pf 4 x 2), .bool (pf 4 x 3), .bool (pf 4 x 4), .bool (pf 4 x 5), .bool (pf 4 x 6), .bool (pf 4 x 7), .bool (pt x)] 83)
    have hx1 : Whole (w1.alloc (.cells #[.bool (pf 4 x 0), .bool (pf 4 x 1), .bool (pf 4 x 2), .bool (pf 4 x 3), .bool (pf 4 x 4), .bool (pf 4 x 5), .bool (pf 4 x 6), .bool (pf 4 x 7), .bool (pt x)] 83)) w1.heap.size 83 (plcC 4 x) := Whole.fresh _ _ _
    clear hb h9 ht1 HPP
    unfold plcC place9
    go_wp2_with fail
    refine wp_region_held_drew (S := (TwoNine w.heap.size (.slice A n c) (.int .i64 (q : Int)) w1.heap.size x)) (by kernel_rfl) (twonine_of hq.drew hx1.drew) (fun hHeld => ?_)
    replace hq := hq.drew
    replace hx1 := hx1.drew
    replace ht := ht.drew
    generalize World.drew (w1.alloc (.cells #[.bool (pf 4 x 0), .bool (pf 4 x 1), .bool (pf 4 x 2), .bool (pf 4 x 3), .bool (pf 4 x 4), .bool (pf 4 x 5), .bool (pf 4 x 6), .bool (pf 4 x 7), .bool (pt x)] 83)) = wd at hq hx1 ht hHeld ⊢
    refine wpAnyH_take (i := 0) (v := ?_) rfl (by kernel_rfl) (by kernel_rfl) (by kernel_rfl) (fun _ _ _ h => h) (Or.inl ⟨rfl, ?_⟩) hHeld ?_
    rotate_left
    · intro w' hS; obtain ⟨⟨s0, s1⟩, n0, n1, n2, n3, n4, n5, n6, n7, n8⟩ := hS; go_simp <;> with_reducible rfl
    simp only [Act.put, List.getElem_toArray, List.getElem_cons_succ, List.getElem_cons_zero, List.setIfInBounds_toArray, List.set_cons_succ, List.set_cons_zero]
    refine wpAnyH_take (i := 3) (v := ?_) rfl (by kernel_rfl) (by kernel_rfl) (by kernel_rfl) (fun _ _ _ h => h) (Or.inl ⟨rfl, ?_⟩) hHeld ?_
    rotate_left
    · intro w' hS; obtain ⟨⟨s0, s1⟩, n0, n1, n2, n3, n4, n5, n6, n7, n8⟩ := hS; go_simp <;> with_reducible rfl
    simp only [Act.put, List.getElem_toArray, List.getElem_cons_succ, List.getElem_cons_zero, List.setIfInBounds_toArray, List.set_cons_succ, List.set_cons_zero]
    refine wpAnyH_ready (rs := [1]) (by kernel_rfl) (by simp) (AllReadyH.cons rfl (fun K hK => ?_) AllReadyH.nil)
    go_simp
    refine (routesOf_any A n c q xs _ (hA.out.below ht) HX.out h1 hn hq8 HXS.out).mono ?_
    rintro e wdb ⟨E, cE, mb, rfl, hown, hmap, hb⟩
    clear hown
    obtain ⟨y, hy⟩ : ∃ y, codeOf (trues n) true = y := ⟨_, rfl⟩
    obtain ⟨k, hk⟩ : ∃ k, (upLists n q).length = k := ⟨_, rfl⟩
    rw [hy] at hmap
    rw [hy, hk]
    have HYY := Lib.hid hy
    clear hy hk
    unfold routeC
    have hfd : ∀ W, (Instr.field 86 (.agg #[.slice E k cE, .bool (pf 4 y 0), .bool (pf 4 y 1), .bool (pf 4 y 2), .bool (pf 4 y 3), .bool (pf 4 y 4), .bool (pf 4 y 5), .bool (pf 4 y 6), .bool (pf 4 y 7), .bool (pt y), .map (some mb)]) 2).run Try.prog W = .ok (.map (some mb)) W := fun _ => by kernel_rfl
    replace hq := hq.below hb
    replace hx1 := hx1.below hb
    replace ht := below_then ht hb ht.size
    clear hb
    refine hK.out _ _ (twonine_of hq hx1) (fun hHeld => ?_)
    clear hK K
    try simp only [Act.put, List.getElem_toArray, List.getElem_cons_succ, List.getElem_cons_zero, List.setIfInBounds_toArray, List.set_cons_succ, List.set_cons_zero]
    refine wpAnyH_take (i := 2) (v := ?_) rfl (by kernel_rfl) (by kernel_rfl) (by kernel_rfl) (fun _ _ _ h => h) (Or.inl ⟨rfl, ?_⟩) hHeld ?_
    rotate_left
    · intro w' hS; obtain ⟨⟨s0, s1⟩, n0, n1, n2, n3, n4, n5, n6, n7, n8⟩ := hS; go_simp <;> with_reducible rfl
    simp only [Act.put, List.getElem_toArray, List.getElem_cons_succ, List.getElem_cons_zero, List.setIfInBounds_toArray, List.set_cons_succ, List.set_cons_zero]
    refine wpAnyH_ready (rs := [4]) (by kernel_rfl) (by simp) (AllReadyH.cons rfl (fun K hK => ?_) AllReadyH.nil)
    have hlk := MapIs.look_ok hmap (place_keys (by omega)) Try.underlying84 Try.underlying3 (hzero _) x HXD.out
    rw [← HYY.out, HMX.out.1, HMX.out.2] at hlk
    unfold plc plcC place9 at hlk
    go_simp
    refine hK.out _ _ (twonine_of hq hx1) (fun hHeld => ?_)
    clear hK K
    try simp only [Act.put, List.getElem_toArray, List.getElem_cons_succ, List.getElem_cons_zero, List.setIfInBounds_toArray, List.set_cons_succ, List.set_cons_zero]
    refine wpAnyH_take (i := 5) (v := ?_) rfl (by kernel_rfl) (by kernel_rfl) (by kernel_rfl) (fun _ _ _ h => h) (Or.inl ⟨rfl, ?_⟩) hHeld ?_
    rotate_left
    · intro w' hS; obtain ⟨⟨s0, s1⟩, n0, n1, n2, n3, n4, n5, n6, n7, n8⟩ := hS; go_simp <;> with_reducible rfl
    simp only [Act.put, List.getElem_toArray, List.getElem_cons_succ, List.getElem_cons_zero, List.setIfInBounds_toArray, List.set_cons_succ, List.set_cons_zero]
    refine wpAnyH_take (i := 6) (v := ?_) rfl (by kernel_rfl) (by kernel_rfl) (by kernel_rfl) (fun _ _ _ h => h) (Or.inl ⟨rfl, ?_⟩) hHeld ?_
    rotate_left
    · intro w' hS; obtain ⟨⟨s0, s1⟩, n0, n1, n2, n3, n4, n5, n6, n7, n8⟩ := hS; go_simp <;> with_reducible rfl
    simp only [Act.put, List.getElem_toArray, List.getElem_cons_succ, List.getElem_cons_zero, List.setIfInBounds_toArray, List.set_cons_succ, List.set_cons_zero]
    refine wpAnyH_take (i := 7) (v := ?_) rfl (by kernel_rfl) (by kernel_rfl) (by kernel_rfl) (fun _ _ _ h => h) (Or.inl ⟨rfl, ?_⟩) hHeld ?_
    rotate_left
    · intro w' hS; obtain ⟨⟨s0, s1⟩, n0, n1, n2, n3, n4, n5, n6, n7, n8⟩ := hS; go_simp <;> with_reducible rfl
    simp only [Act.put, List.getElem_toArray, List.getElem_cons_succ, List.getElem_cons_zero, List.setIfInBounds_toArray, List.set_cons_succ, List.set_cons_zero]
    refine wpAnyH_take (i := 8) (v := ?_) rfl (by kernel_rfl) (by kernel_rfl) (by kernel_rfl) (fun _ _ _ h => h) (Or.inl ⟨rfl, ?_⟩) hHeld ?_
    rotate_left
    · intro w' hS; obtain ⟨⟨s0, s1⟩, n0, n1, n2, n3, n4, n5, n6, n7, n8⟩ := hS; go_simp <;> with_reducible rfl
    simp only [Act.put, List.getElem_toArray, List.getElem_cons_succ, List.getElem_cons_zero, List.setIfInBounds_toArray, List.set_cons_succ, List.set_cons_zero]
    refine wpAnyH_take (i := 9) (v := ?_) rfl (by kernel_rfl) (by kernel_rfl) (by kernel_rfl) (fun _ _ _ h => h) (Or.inl ⟨rfl, ?_⟩) hHeld ?_
    rotate_left
    · intro w' hS; obtain ⟨⟨s0, s1⟩, n0, n1, n2, n3, n4, n5, n6, n7, n8⟩ := hS; go_simp <;> with_reducible rfl
    simp only [Act.put, List.getElem_toArray, List.getElem_cons_succ, List.getElem_cons_zero, List.setIfInBounds_toArray, List.set_cons_succ, List.set_cons_zero]
    refine wpAnyH_done (by kernel_rfl) ?_ _
    clear hHeld
    have HTT := Lib.hid ht
    clear ht hq hx1 hmap
    go_wp2
    go_ret2
    exact ⟨rfl, HTT.out⟩
end Go.Proofs.Ytcikimjpjebflaa

namespace Go.Proofs.Ytcikimjpjebflaa
open Go.RowKit Go.Maps Go.WideShapes

/-- How many of the first times are told and at most tm. -/
def cntO (o : List Int) (tm : Int) (j : Nat) : Nat := ((List.range j).filter fun i => decide (0 ≤ o.getD i (-1) ∧ o.getD i (-1) ≤ tm)).length
theorem cntO_yes {o : List Int} {tm : Int} {j : Nat} (h : 0 ≤ o.getD j (-1) ∧ o.getD j (-1) ≤ tm) : cntO o tm (j + 1) = cntO o tm j + 1 := by
  rw [cntO, List.range_succ, List.filter_append, List.length_append, List.filter_cons, if_pos (by simpa using h)]
  rfl
theorem cntO_no {o : List Int} {tm : Int} {j : Nat} (h : ¬ (0 ≤ o.getD j (-1) ∧ o.getD j (-1) ≤ tm)) : cntO o tm (j + 1) = cntO o tm j := by
  rw [cntO, List.range_succ, List.filter_append, List.length_append, List.filter_cons, if_neg (by simpa using h)]
  rfl
theorem cntO_le (o : List Int) (tm : Int) (j : Nat) : cntO o tm j ≤ j := by
  have h := List.length_filter_le (fun i => decide (0 ≤ o.getD i (-1) ∧ o.getD i (-1) ≤ tm)) (List.range j)
  rw [List.length_range] at h
  exact h
/-- How many keys hold at most tm and are not to come. -/
def within9 (M : Nat → Option Int) (tm : Int) (left : Nat → Bool) (x : Nat) : Bool := !left x && (match M x with | some v => decide (v ≤ tm) | none => false)
def cntM (M : Nat → Option Int) (tm : Int) (left : Nat → Bool) : Nat := ((sts 4).filter (within9 M tm left)).length
theorem filter_same9 {p q : Nat → Bool} {l : List Nat} (h : ∀ x ∈ l, p x = q x) : l.filter p = l.filter q := List.filter_congr h
theorem filter_one {p q : Nat → Bool} {a : Nat} : ∀ {l : List Nat}, l.Nodup → a ∈ l → p a = false → q a = true → (∀ x, x ≠ a → p x = q x) → (l.filter q).length = (l.filter p).length + 1
  | [], _, h, _, _, _ => by cases h
  | b :: l, hn, ha, h1, h2, h3 => by
    obtain ⟨hb, hn⟩ := List.nodup_cons.1 hn
    by_cases e : b = a
    · subst e
      have : l.filter q = l.filter p := filter_same9 fun x hx => (h3 x (fun e => hb (e ▸ hx))).symm
      simp [h1, h2, this]
    · have ha' : a ∈ l := by rcases List.mem_cons.1 ha with h | h; exact absurd h.symm e; exact h
      have ih := filter_one hn ha' h1 h2 h3
      have hpb := h3 b e
      cases hp : p b
      · rw [hp] at hpb
        simp [hp, ← hpb, ih]
      · rw [hp] at hpb
        simp [hp, ← hpb, ih]
theorem cntM_start (M : Nat → Option Int) (tm : Int) : cntM M tm (fun x => (M x).isSome) = 0 := by
  rw [cntM, List.length_eq_zero_iff, List.filter_eq_nil_iff]
  intro x _
  cases h : M x <;> simp [within9, h]
theorem cntM_yes {M : Nat → Option Int} {tm v : Int} {left left' : Nat → Bool} {x : Nat} (hx : x ∈ sts 4) (hl : left x = true) (hM : M x = some v) (hv : v ≤ tm) (h1 : left' x = false) (h2 : ∀ z, z ≠ x → left' z = left z) : cntM M tm left' = cntM M tm left + 1 := by
  refine filter_one (a := x) (sts_nodup 4) hx ?_ ?_ fun z hz => ?_
  · simp [within9, hl]
  · simp [within9, h1, hM, hv]
  · simp [within9, h2 z hz]
theorem cntM_no {M : Nat → Option Int} {tm v : Int} {left left' : Nat → Bool} {x : Nat} (hM : M x = some v) (hv : ¬ v ≤ tm) (h2 : ∀ z, z ≠ x → left' z = left z) : cntM M tm left' = cntM M tm left := by
  rw [cntM, cntM]
  refine congrArg List.length (filter_same9 fun z _ => ?_)
  by_cases e : z = x
  · subst e
    simp [within9, hM, hv]
  · simp [within9, h2 z e]
theorem cntM_le (M : Nat → Option Int) (tm : Int) (left : Nat → Bool) : cntM M tm left ≤ 512 := by
  have h := List.length_filter_le (within9 M tm left) (sts 4)
  have h2 : (sts 4).length = 512 := by simp [sts]
  unfold cntM
  omega
/-- How many states are reached in a time. -/
noncomputable def reachN (xs : List Int) (n q : Nat) (tm : Int) : Nat := cntM (partyD xs n q 0) tm (fun _ => false)
theorem reach_in {xs : List Int} {n q : Nat} {tm : Int} {x : Nat} (hx : xs.length = n) (hn : n ≤ 8) (hxs : ∀ y ∈ xs, 1 ≤ y) (h : within9 (partyD xs n q 0) tm (fun _ => false) x = true) : x / 2 < 2 ^ n := by
  cases hd : partyD xs n q 0 x with
  | none => simp [within9, hd] at h
  | some v =>
    have h2 : partyD xs n q (codeOf (falses n, false).1 (falses n, false).2) x = some v := by rw [show codeOf (falses n, false).1 (falses n, false).2 = 0 from code_none n]; exact hd
    exact party_out hx hn hxs (by simp [falses]) h2
theorem reach_both {xs : List Int} {n q : Nat} {done : List Bool} {o : List Int} {tm : Int} (hx : xs.length = n) (hn : n ≤ 8) (hxs : ∀ y ∈ xs, 1 ≤ y) (hol : o.length = 2 ^ (n + 1))
    (hL : Least (Leg xs n q) (stateS n (num (falses n) false.toNat)) (settledS n done o)) (hno : ∀ i, i < 2 ^ (n + 1) → done.getD i false = false → o.getD i (-1) < 0) (hm : ∀ i, -1 ≤ o.getD i (-1)) : cntO o tm o.length = reachN xs n q tm := by
  have hfl : (falses n).length = n := by simp [falses]
  have hat : ∀ b : List Bool × Bool, b.1.length = n → o.getD (num b.1 b.2.toNat) (-1) = (timeST xs n q (falses n, false) b).getD (-1) := fun b hb => far_at (a := (falses n, false)) hx hxs hfl hb hL hno hm
  have hpt : ∀ b : List Bool × Bool, b.1.length = n → partyD xs n q 0 (codeOf b.1 b.2) = timeST xs n q (falses n, false) b := fun b hb => by
    have h := party_at (q := q) (a := (falses n, false)) hx hn hxs hfl hb
    rw [show codeOf (falses n, false).1 (falses n, false).2 = 0 from code_none n] at h
    exact h
  have key : ∀ b : List Bool × Bool, b.1.length = n → (within9 (partyD xs n q 0) tm (fun _ => false) (codeOf b.1 b.2) = true ↔ 0 ≤ o.getD (num b.1 b.2.toNat) (-1) ∧ o.getD (num b.1 b.2.toNat) (-1) ≤ tm) := fun b hb => by
    rw [within9, hpt b hb, hat b hb]
    cases hd : timeST xs n q (falses n, false) b with
    | none => simp
    | some v =>
      have h0 := time_low hx hxs hd
      simp [h0]
  have hst : ∀ i, (stateS n i).1.length = n := stateS_len n
  refine Nat.le_antisymm ?_ ?_
  · have h := nodup_le (((List.range o.length).filter fun i => decide (0 ≤ o.getD i (-1) ∧ o.getD i (-1) ≤ tm)).map fun i => codeOf (stateS n i).1 (stateS n i).2) ((sts 4).filter (within9 (partyD xs n q 0) tm (fun _ => false))) ?_ ?_
    · rw [List.length_map] at h; exact h
    · rw [List.Nodup, List.pairwise_map]
      refine List.Pairwise.imp_of_mem ?_ (List.nodup_range.filter _)
      intro i j hi hj hne e
      have hi' := List.mem_range.1 (List.mem_filter.1 hi).1
      have hj' := List.mem_range.1 (List.mem_filter.1 hj).1
      rw [hol] at hi' hj'
      have h1 := (unS_of (hst i)).1
      have h2 := (unS_of (hst j)).1
      rw [e, h2] at h1
      exact hne (by rw [← numS_state hi', ← h1, numS_state hj'])
    · intro x hx9
      obtain ⟨i, hi, rfl⟩ := List.mem_map.1 hx9
      obtain ⟨hi1, hi2⟩ := List.mem_filter.1 hi
      rw [List.mem_range, hol] at hi1
      have h3 := of_decide_eq_true hi2
      refine List.mem_filter.2 ⟨code_mem (by rw [hst]; exact hn), (key _ (hst i)).2 ?_⟩
      rw [show num (stateS n i).1 (stateS n i).2.toNat = i from numS_state hi1]
      exact h3
  · have h := nodup_le (((sts 4).filter (within9 (partyD xs n q 0) tm (fun _ => false))).map fun x => num (unS n x).1 (unS n x).2.toNat) ((List.range o.length).filter fun i => decide (0 ≤ o.getD i (-1) ∧ o.getD i (-1) ≤ tm)) ?_ ?_
    · rw [List.length_map] at h; exact h
    · rw [List.Nodup, List.pairwise_map]
      refine List.Pairwise.imp_of_mem ?_ ((sts_nodup 4).filter _)
      intro x y hx9 hy9 hne e
      have hx' : x / 2 < 2 ^ n := reach_in hx hn hxs (List.mem_filter.1 hx9).2
      have hy' : y / 2 < 2 ^ n := reach_in hx hn hxs (List.mem_filter.1 hy9).2
      exact hne (phi_inj hx' hy' e)
    · intro i hi
      obtain ⟨x, hx9, rfl⟩ := List.mem_map.1 hi
      obtain ⟨hx1, hx2⟩ := List.mem_filter.1 hx9
      have hx' : x / 2 < 2 ^ n := reach_in hx hn hxs hx2
      have hun : (unS n x).1.length = n := bitsOf_len _ _
      have hxe : codeOf (unS n x).1 (unS n x).2 = x := unS_code hx'
      refine List.mem_filter.2 ⟨List.mem_range.2 ?_, decide_eq_true ((key _ hun).1 (by rw [hxe]; exact hx2))⟩
      have h := num_lt (unS n x).1 (unS n x).2
      rw [hun] at h
      rw [hol]
      exact h
noncomputable def reachOk (xs : List Int) (s tm : Int) : Bool := isParty xs s && within tm 0 100000
noncomputable def reachV (xs : List Int) (s tm : Int) : Int := if reachOk xs s tm then (reachN xs xs.length s.toNat tm : Nat) else 0
theorem reach_none {xs : List Int} {s tm : Int} (h : reachOk xs s tm = false) : reachV xs s tm = 0 := by simp [reachV, h]
theorem reach_yes {xs : List Int} {n q : Nat} {tm : Int} (hx : xs.length = n) (h : reachOk xs (q : Int) tm = true) : reachV xs (q : Int) tm = (reachN xs n q tm : Nat) := by subst hx; simp [reachV, h]

set_option maxHeartbeats 12800000 in
set_option maxRecDepth 100000 in
set_option linter.unusedVariables false in
set_option linter.unusedSimpArgs false in
theorem specReached_any9 (A : Option Addr) (n c : Nat) (xs : List Int) (s tm : Int) (w : World) (hA0 : Holds w A (nums xs)) (hx : xs.length = n) (hn0 : n ≤ 9223372036854775807) :
    Calls Try.prog 35 #[.agg #[.slice A n c, .int .i64 s], .int .i64 tm] w fun e w' => e = .returned (.tuple #[.int .i64 (reachV xs s tm), .bool (reachOk xs s tm)]) ∧ Below w.heap.size w w' := by
  have hA := Lib.hid (hA0.alloc (.cells #[.slice A n c, .int .i64 s] 28))
  have hq := Whole.fresh w 28 #[.slice A n c, .int .i64 s]
  have ht := below1 w (.cells #[.slice A n c, .int .i64 s] 28)
  have HX := Lib.hid hx
  cases hp : isParty xs s
  · have hr : reachOk xs s tm = false := by simp [reachOk, hp]
    have HV : Hid (reachV xs s tm = 0 ∧ reachOk xs s tm = false) := ⟨reach_none hr, hr⟩
    have HP := Lib.hid hp
    have HT := Lib.hid ht
    clear hp hr hx hA0 hq ht
    go_enter Try.func35, Try.ntmps35
    go_wp2_with fail
    refine (paGood_any A n c xs s _ hA.out HX.out hn0).mono ?_
    rintro e w1 ⟨rfl, hb⟩
    rw [HP.out]
    have HT1 := Lib.hid (below_then HT.out hb HT.out.size)
    clear hb
    go_wp2
    go_ret2
    exact ⟨by rw [HV.out.1, HV.out.2]; rfl, HT1.out⟩
  obtain ⟨q, rfl⟩ : ∃ q : Nat, s = (q : Int) := ⟨s.toNat, by simp only [isParty, Bool.and_eq_true, within_iff] at hp; omega⟩
  obtain ⟨h1, hn, gq1, hq8, gxs⟩ := party_parts hp
  rw [hx] at h1 hn
  cases hw : within tm 0 100000
  · have hr : reachOk xs (q : Int) tm = false := by simp [reachOk, hw]
    have HV : Hid (reachV xs (q : Int) tm = 0 ∧ reachOk xs (q : Int) tm = false) := ⟨reach_none hr, hr⟩
    have HP := Lib.hid hp
    have HW := Lib.hid hw
    have HT := Lib.hid ht
    clear hp hr hx hA0 hw hq ht gxs
    go_enter Try.func35, Try.ntmps35
    go_wp2_with fail
    refine (paGood_any A n c xs (q : Int) _ hA.out HX.out hn0).mono ?_
    rintro e w1 ⟨rfl, hb⟩
    rw [HP.out]
    have HT1 := Lib.hid (below_then HT.out hb HT.out.size)
    clear hb
    go_wp2_with fail
    refine (l1In_any _ _ _ _).mono ?_
    rintro e w' ⟨rfl, rfl⟩
    rw [HW.out]
    go_wp2
    go_ret2
    exact ⟨by rw [HV.out.1, HV.out.2]; rfl, HT1.out⟩
  · have hr : reachOk xs (q : Int) tm = true := by simp [reachOk, hp, hw]
    have HV : Hid (reachV xs (q : Int) tm = (reachN xs n q tm : Nat) ∧ reachOk xs (q : Int) tm = true) := ⟨reach_yes hx hr, hr⟩
    have HP := Lib.hid hp
    have HW := Lib.hid hw
    have HXS := Lib.hid gxs
    have HFL : Hid ((falses n).length = n) := by show _ = _; simp [falses]
    have htm1 := (within_iff.1 hw).1
    have htm2 := (within_iff.1 hw).2
    have HA0 := Lib.hid hA0
    clear hp hr hx hA0 hw gxs
    go_enter Try.func35, Try.ntmps35
    go_wp2_with fail
    refine (paGood_any A n c xs (q : Int) _ hA.out HX.out hn0).mono ?_
    rintro e w1 ⟨rfl, hb⟩
    rw [HP.out]
    replace ht := below_then ht hb ht.size
    replace hq := hq.below hb
    obtain ⟨k0, k1⟩ := hq.cells2
    have hql := hq.lt
    clear hb
    go_wp2_with fail
    refine (l1In_any _ _ _ _).mono ?_
    rintro e w' ⟨rfl, rfl⟩
    rw [HW.out]
    go_wp2_with fail
    clear k0 k1 hql
    refine wp_region_held_drew (S := (Two w.heap.size (.slice A n c) (.int .i64 (q : Int)))) (by kernel_rfl) (two_of hq.drew) (fun hHeld => ?_)
    replace hq := hq.drew
    replace ht := ht.drew
    generalize World.drew w1 = wd at hq ht hHeld ⊢
    refine wpAnyH_take (i := 0) (v := ?_) rfl (by kernel_rfl) (by kernel_rfl) (by kernel_rfl) (fun _ _ _ h => h) (Or.inl ⟨rfl, ?_⟩) hHeld ?_
    rotate_left
    · intro w' hS; obtain ⟨s0, s1⟩ := hS; go_simp <;> with_reducible rfl
    simp only [Act.put, List.getElem_toArray, List.getElem_cons_succ, List.getElem_cons_zero, List.setIfInBounds_toArray, List.set_cons_succ, List.set_cons_zero]
    refine wpAnyH_take (i := 1) (v := ?_) rfl (by kernel_rfl) (by kernel_rfl) (by kernel_rfl) (fun _ _ _ h => h) (Or.inl ⟨rfl, ?_⟩) hHeld ?_
    rotate_left
    · intro w' hS; obtain ⟨s0, s1⟩ := hS; go_simp <;> with_reducible rfl
    simp only [Act.put, List.getElem_toArray, List.getElem_cons_succ, List.getElem_cons_zero, List.setIfInBounds_toArray, List.set_cons_succ, List.set_cons_zero]
    refine wpAnyH_take (i := 5) (v := ?_) rfl (by kernel_rfl) (by kernel_rfl) (by kernel_rfl) (fun _ _ _ h => h) (Or.inl ⟨rfl, ?_⟩) hHeld ?_
    rotate_left
    · intro w' hS; obtain ⟨s0, s1⟩ := hS; go_simp <;> with_reducible rfl
    simp only [Act.put, List.getElem_toArray, List.getElem_cons_succ, List.getElem_cons_zero, List.setIfInBounds_toArray, List.set_cons_succ, List.set_cons_zero]
    refine wpAnyH_ready (rs := [2]) (by kernel_rfl) (by simp) (AllReadyH.cons rfl (fun K hK => ?_) AllReadyH.nil)
    go_simp
    refine (paFirst_any A n c (q : Int) _ (by omega)).mono ?_
    rintro e wdc ⟨rfl, hw9, hb⟩
    obtain ⟨g1, hg1⟩ : ∃ g, g = wd.heap.size + 1 + 1 := ⟨_, rfl⟩
    rw [← hg1] at hw9 ⊢
    replace hq := hq.below hb
    replace ht := below_then ht hb ht.size
    clear hb
    have hB1 : Holds wdc (some ⟨g1, 0, none⟩) (bits (falses n)) := (Fresh.of_whole (lo := 0) (hi := wdc.heap.size) hw9 (Nat.zero_le _) hw9.lt).holds
    clear hw9 hg1
    refine hK.out _ _ (two_of hq) (fun hHeld => ?_)
    clear hK K
    try simp only [Act.put, List.getElem_toArray, List.getElem_cons_succ, List.getElem_cons_zero, List.setIfInBounds_toArray, List.set_cons_succ, List.set_cons_zero]
    refine wpAnyH_ready (rs := [3]) (by kernel_rfl) (by simp) (AllReadyH.cons rfl (fun K hK => ?_) AllReadyH.nil)
    go_simp
    refine (seFar_any A (some ⟨g1, 0, none⟩) n c n q xs (falses n) false _ (HA0.out.below ht) hB1 HX.out HFL.out h1 hn hq8 HXS.out).mono ?_
    rintro e wdcd ⟨g, done, o, rfl, hol, hFr, hL, hno, hbd, -, hb⟩
    replace hq := hq.below hb
    replace ht := below_then ht hb ht.size
    clear hb hB1
    have HCNT : Hid (cntO o tm o.length = reachN xs n q tm) := by show _ = _; exact reach_both HX.out hn (fun y hy => (HXS.out y hy).1) hol hL hno (fun i => (hbd i).1)
    have HOL := Lib.hid hol
    clear hL hno hbd hol
    refine hK.out _ _ (two_of hq) (fun hHeld => ?_)
    clear hK K
    try simp only [Act.put, List.getElem_toArray, List.getElem_cons_succ, List.getElem_cons_zero, List.setIfInBounds_toArray, List.set_cons_succ, List.set_cons_zero]
    refine wpAnyH_take (i := 4) (v := ?_) rfl (by kernel_rfl) (by kernel_rfl) (by kernel_rfl) (fun _ _ _ h => h) (Or.inl ⟨rfl, ?_⟩) hHeld ?_
    rotate_left
    · intro w' hS; obtain ⟨s0, s1⟩ := hS; go_simp <;> with_reducible rfl
    simp only [Act.put, List.getElem_toArray, List.getElem_cons_succ, List.getElem_cons_zero, List.setIfInBounds_toArray, List.set_cons_succ, List.set_cons_zero]
    refine wpAnyH_done (by kernel_rfl) ?_ _
    clear hHeld
    have HTT := Lib.hid ht
    have HFR := Lib.hid hFr
    have hol9 : o.length ≤ 512 := by rw [HOL.out]; exact Nat.le_trans (Nat.pow_le_pow_right (by omega) (show n + 1 ≤ 9 by omega)) (by decide)
    have hfl := hFr.lt
    obtain ⟨wf, hwf⟩ : ∃ W : World, W = wdcd := ⟨_, rfl⟩
    rw [← hwf] at HTT HFR hfl ⊢
    clear ht hFr hq hwf
    go_wp2
    go_loop [6, 22] (fun v i => ∃ j : Nat, j ≤ o.length ∧ i = .int .i64 j ∧ v = .int .i64 (cntO o tm j : Nat)) (fun _ i => o.length - (intOf i).toNat)
    case atStart => exact ⟨0, Nat.zero_le _, rfl, rfl⟩
    case round =>
      obtain ⟨j, hj, rfl, rfl⟩ := hrel
      have hcl := cntO_le o tm j
      by_cases hlt : j < o.length
      · have hd1 : decide ((j : Int) < (o.length : Int)) = true := by simp; omega
        have k0 := num_cellF (v := o.getD j (-1)) HFR.out (i := j) hlt (getD_m1 hlt)
        have hy := cntO_yes (o := o) (tm := tm) (j := j)
        have hn9 := cntO_no (o := o) (tm := tm) (j := j)
        obtain ⟨v, hv⟩ : ∃ v, o.getD j (-1) = v := ⟨_, rfl⟩
        rw [hv] at k0 hy hn9
        have HYY := Lib.hid hy
        have HNN := Lib.hid hn9
        clear hv hy hn9
        generalize cntO o tm j = cj at hcl HYY HNN ⊢
        by_cases h0 : 0 ≤ v
        · have hd2 : decide (0 ≤ v) = true := by simp [h0]
          by_cases h2 : v ≤ tm
          · have hd3 : decide (v ≤ tm) = true := by simp [h2]
            have HE := Lib.hid (HYY.out ⟨h0, h2⟩)
            go_wp2
            go_round
            case rel => exact ⟨j + 1, by omega, by go_num, by rw [HE.out]; go_num⟩
            case measure => simp [intOf]; omega
          · have hd3 : decide (v ≤ tm) = false := by simp; omega
            have HE := Lib.hid (HNN.out (fun h => h2 h.2))
            go_wp2
            go_round
            case rel => exact ⟨j + 1, by omega, by go_num, by rw [HE.out]⟩
            case measure => simp [intOf]; omega
        · have hd2 : decide (0 ≤ v) = false := by simp; omega
          have HE := Lib.hid (HNN.out (fun h => h0 h.1))
          go_wp2
          go_round
          case rel => exact ⟨j + 1, by omega, by go_num, by rw [HE.out]⟩
          case measure => simp [intOf]; omega
      · obtain rfl : j = o.length := by omega
        have hd1 : decide ((o.length : Int) < (o.length : Int)) = false := by simp
        rw [HCNT.out]
        go_wp2
        go_ret2
        exact ⟨by rw [HV.out.1, HV.out.2]; rfl, HTT.out⟩

set_option maxHeartbeats 6400000 in
set_option maxRecDepth 100000 in
set_option linter.unusedVariables false in
set_option linter.unusedSimpArgs false in
theorem implReached_any9 (A : Option Addr) (n c : Nat) (xs : List Int) (s tm : Int) (w : World) (hA0 : Holds w A (nums xs)) (hx : xs.length = n) (hn0 : n ≤ 9223372036854775807) :
    Calls Try.prog 36 #[.agg #[.slice A n c, .int .i64 s], .int .i64 tm] w fun e w' => e = .returned (.tuple #[.int .i64 (reachV xs s tm), .bool (reachOk xs s tm)]) ∧ Below w.heap.size w w' := by
  have hA := Lib.hid (hA0.alloc (.cells #[.slice A n c, .int .i64 s] 28))
  have hq := Whole.fresh w 28 #[.slice A n c, .int .i64 s]
  have HT := Lib.hid (below1 w (.cells #[.slice A n c, .int .i64 s] 28))
  have HX := Lib.hid hx
  cases hp : isParty xs s
  · have hr : reachOk xs s tm = false := by simp [reachOk, hp]
    have HV : Hid (reachV xs s tm = 0 ∧ reachOk xs s tm = false) := ⟨reach_none hr, hr⟩
    have HP := Lib.hid hp
    clear hp hr hx hA0 hq
    go_enter Try.func36, Try.ntmps36
    go_wp2_with fail
    refine (isParty_any A n c xs s _ hA.out HX.out hn0).mono ?_
    rintro e w1 ⟨rfl, hb⟩
    rw [HP.out]
    have HT1 := Lib.hid (below_then HT.out hb HT.out.size)
    clear hb
    go_wp2
    go_ret2
    exact ⟨by rw [HV.out.1, HV.out.2]; rfl, HT1.out⟩
  obtain ⟨q, rfl⟩ : ∃ q : Nat, s = (q : Int) := ⟨s.toNat, by simp only [isParty, Bool.and_eq_true, within_iff] at hp; omega⟩
  obtain ⟨h1, hn, gq1, hq8, gxs⟩ := party_parts hp
  rw [hx] at h1 hn
  have HP := Lib.hid hp
  by_cases ht1 : tm < 0
  · have hr : reachOk xs (q : Int) tm = false := by simp [reachOk, within]; intro _ h; omega
    have HV : Hid (reachV xs (q : Int) tm = 0 ∧ reachOk xs (q : Int) tm = false) := ⟨reach_none hr, hr⟩
    clear hp hr hx hA0 hq gxs
    go_enter Try.func36, Try.ntmps36
    go_wp2_with fail
    refine (isParty_any A n c xs (q : Int) _ hA.out HX.out hn0).mono ?_
    rintro e w1 ⟨rfl, hb⟩
    rw [HP.out]
    have HT1 := Lib.hid (below_then HT.out hb HT.out.size)
    clear hb
    go_wp2
    go_ret2
    exact ⟨by rw [HV.out.1, HV.out.2]; rfl, HT1.out⟩
  have ht0 : 0 ≤ tm := by omega
  by_cases ht2 : 100000 < tm
  · have hr : reachOk xs (q : Int) tm = false := by simp [reachOk, within]; intro _ _; omega
    have HV : Hid (reachV xs (q : Int) tm = 0 ∧ reachOk xs (q : Int) tm = false) := ⟨reach_none hr, hr⟩
    clear hp hr hx hA0 hq gxs
    go_enter Try.func36, Try.ntmps36
    go_wp2_with fail
    refine (isParty_any A n c xs (q : Int) _ hA.out HX.out hn0).mono ?_
    rintro e w1 ⟨rfl, hb⟩
    rw [HP.out]
    have HT1 := Lib.hid (below_then HT.out hb HT.out.size)
    clear hb
    go_wp2
    go_ret2
    exact ⟨by rw [HV.out.1, HV.out.2]; rfl, HT1.out⟩
  have ht3 : tm ≤ 100000 := by omega
  have hr : reachOk xs (q : Int) tm = true := by simp [reachOk, hp, within]; omega
  have HV : Hid (reachV xs (q : Int) tm = (cntM (partyD xs n q 0) tm (fun _ => false) : Nat) ∧ reachOk xs (q : Int) tm = true) := ⟨reach_yes hx hr, hr⟩
  have HXS := Lib.hid gxs
  clear hp hr hx hA0 gxs
  go_enter Try.func36, Try.ntmps36
  go_wp2_with fail
  refine (isParty_any A n c xs (q : Int) _ hA.out HX.out hn0).mono ?_
  rintro e w1 ⟨rfl, hb⟩
  rw [HP.out]
  have HT1 := Lib.hid (below_then HT.out hb HT.out.size)
  have HA1 := Lib.hid (hA.out.below hb)
  replace hq := hq.below hb
  obtain ⟨k0, k1⟩ := hq.cells2
  have hql := hq.lt
  clear hb
  go_wp2_with fail
  refine (timesTo_any A n c q xs _ HA1.out HX.out h1 hn hq8 HXS.out).mono ?_
  rintro e w2 ⟨mb, rfl, hmap, hb⟩
  have HT2 := Lib.hid (below_then HT1.out hb HT1.out.size)
  obtain ⟨M, hM⟩ : ∃ M, partyD xs n q 0 = M := ⟨_, rfl⟩
  rw [hM] at hmap HV
  clear hb hM k0 k1 hql hq
  have hbl := hmap.lt
  go_wp2_with (first
    | (at_range; refine wpList_map_range _ rfl _ rfl (place_keys (by omega)) Try.underlying84 rfl hmap ?_; intro w0 hrg0 hg0 hs0)
    | fail)
  go_frame
  have HR0 := Lib.hid hrg0
  have HG0 := Lib.hid hg0
  clear hrg0 hg0
  go_loopw [6] (fun v wr => ∃ (left : Nat → Bool), v = .int .i64 (cntM M tm left : Nat) ∧ PlaceRange wr mb w2.heap.size M left ∧ w2.grownBy wr none)
    (fun _ wr => wr.rangeLeft mb w2.heap.size)
  case atStart => exact ⟨_, by rw [cntM_start]; rfl, HR0.out, HG0.out⟩
  case round =>
    clear HR0 HG0 hs0
    obtain ⟨left, rfl, hrg, hgw⟩ := hrel
    obtain ⟨wz, rfl⟩ : ∃ X : World, X = wr := ⟨_, rfl⟩
    have hcl := cntM_le M tm left
    have HGW := Lib.hid hgw
    clear hgw
    go_wp2_with (first
      | (at_next; refine wpList_map_next _ rfl _ rfl (place_keys (by omega)) Try.underlying3 rfl hrg ?_ ?_)
      | fail)
    · intro hl0
      have hlf : left = fun _ => false := funext hl0
      subst hlf
      have HT3 := Lib.hid (HT2.out.grown HGW.out HT2.out.size (fun y hy => by cases hy))
      clear hrg hl0
      go_wp2
      go_ret2
      exact ⟨by rw [HV.out.1, HV.out.2]; rfl, HT3.out⟩
    · intro x c' w3 hxd hlx hMx hwc hrg1 hlt hg1 hs1 hen
      have HLT := Lib.hid hlt
      obtain ⟨lf, hlf1, hlf2, HR1⟩ : ∃ lf : Nat → Bool, lf x = false ∧ (∀ z, z ≠ x → lf z = left z) ∧ Hid (PlaceRange w3 mb w2.heap.size M lf) := ⟨_, by simp, fun z hz => by simp [hz], Lib.hid hrg1⟩
      have HY9 := Lib.hid (fun hv : c' ≤ tm => cntM_yes hxd hlx hMx hv hlf1 hlf2)
      have HN9 := Lib.hid (fun hv : ¬ c' ≤ tm => cntM_no hMx hv hlf2)
      have HG1 := Lib.hid (HGW.out.andThen hg1 (fun j hj => .inl (by have := Option.some.inj hj; omega)))
      unfold plc plcC place9 at hen
      clear hlt hrg hrg1 hg1 hs1 hlf1 hlf2 hMx hlx
      generalize cntM M tm left = cj at hcl HY9 HN9 ⊢
      by_cases hv : c' ≤ tm
      · have hd3 : decide (c' ≤ tm) = true := by simp [hv]
        have HE := Lib.hid (HY9.out hv)
        go_wp2
        go_roundw
        case rel => exact ⟨lf, by rw [HE.out]; go_num, HR1.out, HG1.out⟩
        case measure => exact HLT.out
      · have hd3 : decide (c' ≤ tm) = false := by simp; omega
        have HE := Lib.hid (HN9.out hv)
        go_wp2
        go_roundw
        case rel => exact ⟨lf, by rw [HE.out], HR1.out, HG1.out⟩
        case measure => exact HLT.out
end Go.Proofs.Ytcikimjpjebflaa

namespace Go.Proofs.Ytcikimjpjebflaa
open Go.RowKit

set_option maxHeartbeats 800000 in
set_option linter.unusedVariables false in
theorem lawReachedIn_big0 (A0 : Option Addr) (n0 c0 : Nat) (x0 : List Int) (k0 : Int) (k1 : Int) (w : World) (h0 : Holds w A0 (nums x0)) (hx0 : x0.length = n0) (hn0 : n0 ≤ 9223372036854775807)  (hbig : 1048576 - (n0 : Int) < 0) :
    Calls Try.prog 8 #[.agg #[.slice A0 n0 c0, .int .i64 k0], .int .i64 k1] w fun e w' => e = .returned (.bool true) ∧ Below w.heap.size w w' := by
  have hb0 := (Whole.fresh w 24 #[.slice A0 n0 c0, .int .i64 k0])
  have ht := below1 w (.cells #[.slice A0 n0 c0, .int .i64 k0] 24)
  have HX0 := Lib.hid hx0
  clear hx0
  obtain ⟨hb0_0, hb0_1⟩ := hb0.cells2
  have hb0_l := hb0.lt
  go_enter Try.func8, Try.ntmps8
  go_wp2_with fail
  refine (szParty_any A0 n0 c0 k0 (1048576) _ (by omega) (by omega) (by omega)).mono ?_
  rintro e v1 ⟨rfl, hb⟩
  rw [if_pos (by omega)]
  have hz1 : w.heap.size + 1 ≤ v1.heap.size := by have := hb.size; simpa using this
  replace ht := below_then ht hb ht.size
  replace hb0 := hb0.below hb
  clear hb
  clear hb0_0 hb0_1 hb0_l
  go_wp2
  go_ret
  exact ⟨rfl, ht⟩

set_option maxHeartbeats 12800000 in
set_option maxRecDepth 100000 in
set_option linter.unusedSimpArgs false in
set_option linter.unusedVariables false in
theorem lawReachedIn_small (A0 : Option Addr) (n0 c0 : Nat) (x0 : List Int) (k0 : Int) (k1 : Int) (w : World) (h0 : Holds w A0 (nums x0)) (hx0 : x0.length = n0) (hn0 : n0 ≤ 9223372036854775807) (g0 : 0 ≤ 1048576 - (n0 : Int)) :
    Calls Try.prog 8 #[.agg #[.slice A0 n0 c0, .int .i64 k0], .int .i64 k1] w fun e w' => e = .returned (.bool true) ∧ Below w.heap.size w w' := by
  have hb0 := (Whole.fresh w 24 #[.slice A0 n0 c0, .int .i64 k0])
  have ht := below1 w (.cells #[.slice A0 n0 c0, .int .i64 k0] 24)
  have HX0 := Lib.hid hx0
  clear hx0
  obtain ⟨hb0_0, hb0_1⟩ := hb0.cells2
  have hb0_l := hb0.lt
  go_enter Try.func8, Try.ntmps8
  -- region 2
  go_wp2_with fail
  refine (szParty_any A0 n0 c0 k0 (1048576) _ (by omega) (by omega) (by omega)).mono ?_
  rintro e v1 ⟨rfl, hb⟩
  rw [if_neg (by omega)]
  have hz1 : w.heap.size + 1 ≤ v1.heap.size := by have := hb.size; simpa using this
  replace ht := below_then ht hb ht.size
  replace hb0 := hb0.below hb
  clear hb
  clear hb0_0 hb0_1 hb0_l
  obtain ⟨hb0_0, hb0_1⟩ := hb0.cells2
  have hb0_l := hb0.lt
  -- region 5
  go_wp2_with fail
  refine (toParty_own A0 n0 c0 x0 k0 _ (by exact h0.below ht) HX0.out (by omega)).mono ?_
  rintro e v2 ⟨gp0, rfl, hgp0, hwp0, hb⟩
  have hz2 : v1.heap.size ≤ v2.heap.size := by have := hb.size; simpa using this
  replace ht := below_then ht hb ht.size
  replace hb0 := hb0.below hb
  have hp0 := Fresh.of_whole (lo := v1.heap.size) (hi := v2.heap.size) hwp0 (by simpa using hgp0) hwp0.lt
  clear hgp0 hwp0
  clear hb
  clear hb0_0 hb0_1 hb0_l
  obtain ⟨hb0_0, hb0_1⟩ := hb0.cells2
  have hb0_l := hb0.lt
  go_wp2_with fail
  refine (specReached_any9 _ n0 _ x0 k0 k1 _ (by exact hp0.holds) HX0.out (by omega)).mono ?_
  rintro e v3 ⟨rfl, hb⟩
  have hz3 : v2.heap.size ≤ v3.heap.size := by have := hb.size; simpa using this
  replace ht := below_then ht hb ht.size
  replace hb0 := hb0.below hb
  replace hp0 := hp0.below hb
  clear hb
  clear hp0
  clear hb0_0 hb0_1 hb0_l
  obtain ⟨hb0_0, hb0_1⟩ := hb0.cells2
  have hb0_l := hb0.lt
  -- region 6
  go_wp2_with fail
  refine (toParty_own A0 n0 c0 x0 k0 _ (by exact h0.below ht) HX0.out (by omega)).mono ?_
  rintro e v4 ⟨gx0, rfl, hgx0, hwx0, hb⟩
  have hz4 : v3.heap.size ≤ v4.heap.size := by have := hb.size; simpa using this
  replace ht := below_then ht hb ht.size
  replace hb0 := hb0.below hb
  have hx0 := Fresh.of_whole (lo := v3.heap.size) (hi := v4.heap.size) hwx0 (by simpa using hgx0) hwx0.lt
  clear hgx0 hwx0
  clear hb
  have hx90 := Whole.fresh v4 28 #[.slice (some ⟨gx0, 0, none⟩) n0 n0, .int .i64 k0]
  replace ht := ht.alloc ht.size (.cells #[.slice (some ⟨gx0, 0, none⟩) n0 n0, .int .i64 k0] 28)
  replace hb0 := hb0.alloc (.cells #[.slice (some ⟨gx0, 0, none⟩) n0 n0, .int .i64 k0] 28)
  replace hx0 := hx0.alloc (.cells #[.slice (some ⟨gx0, 0, none⟩) n0 n0, .int .i64 k0] 28)
  clear hb0_0 hb0_1 hb0_l
  obtain ⟨hb0_0, hb0_1⟩ := hb0.cells2
  have hb0_l := hb0.lt
  obtain ⟨hx90_0, hx90_1⟩ := hx90.cells2
  have hx90_l := hx90.lt
  -- region 7
  go_wp2_with fail
  refine (implReached_any9 _ n0 _ x0 k0 k1 _ (by exact hx0.holds) HX0.out (by omega)).mono ?_
  rintro e v5 ⟨rfl, hb⟩
  have hz5 : v4.heap.size + 1 ≤ v5.heap.size := by have := hb.size; simpa using this
  replace ht := below_then ht hb ht.size
  replace hb0 := hb0.below hb
  replace hx0 := hx0.below hb
  replace hx90 := hx90.below hb
  clear hb
  clear hb0_0 hb0_1 hb0_l hx90_0 hx90_1 hx90_l
  obtain ⟨hb0_0, hb0_1⟩ := hb0.cells2
  have hb0_l := hb0.lt
  obtain ⟨hx90_0, hx90_1⟩ := hx90.cells2
  have hx90_l := hx90.lt
  -- region 10
  clear hb0_0 hb0_1 hb0_l hx90_0 hx90_1 hx90_l
  go_wp2_with fail
  refine wp_region_held_drew (S := (fun w' => w'.cell? ⟨w.heap.size, 0, none⟩ = some (.slice A0 n0 c0) ∧ w'.cell? ⟨w.heap.size, 1, none⟩ = some (.int .i64 k0) ∧ w'.cell? ⟨v4.heap.size, 0, none⟩ = some (.slice (some ⟨gx0, 0, none⟩) n0 n0) ∧ w'.cell? ⟨v4.heap.size, 1, none⟩ = some (.int .i64 k0))) (by kernel_rfl) ⟨hb0.drew.cell 0, hb0.drew.cell 1, hx90.drew.cell 0, hx90.drew.cell 1⟩ (fun hHeld => ?_)
  replace ht := ht.drew
  replace hb0 := hb0.drew
  replace hx0 := hx0.drew
  replace hx90 := hx90.drew
  refine wpAnyH_take (i := 0) (v := ?_) rfl (by kernel_rfl) (by kernel_rfl) (by kernel_rfl) (fun _ _ _ h => h) (Or.inl ⟨rfl, ?_⟩) hHeld ?_
  rotate_left
  · intro w' hS; obtain ⟨s0, s1, s2, s3⟩ := hS; go_simp <;> with_reducible rfl
  simp only [Act.put, List.getElem_toArray, List.getElem_cons_succ, List.getElem_cons_zero, List.setIfInBounds_toArray, List.set_cons_succ, List.set_cons_zero]
  refine wpAnyH_take (i := 1) (v := ?_) rfl (by kernel_rfl) (by kernel_rfl) (by kernel_rfl) (fun _ _ _ h => h) (Or.inl ⟨rfl, ?_⟩) hHeld ?_
  rotate_left
  · intro w' hS; obtain ⟨s0, s1, s2, s3⟩ := hS; go_simp <;> with_reducible rfl
  simp only [Act.put, List.getElem_toArray, List.getElem_cons_succ, List.getElem_cons_zero, List.setIfInBounds_toArray, List.set_cons_succ, List.set_cons_zero]
  refine wpAnyH_ready (rs := [2]) (by kernel_rfl) (by simp) (AllReadyH.cons rfl (fun K hK => ?_) AllReadyH.nil)
  go_simp
  refine (toParty_own A0 n0 c0 x0 k0 _ (by exact h0.below ht) HX0.out (by omega)).mono ?_
  rintro e v6 ⟨gy0, rfl, hgy0, hwy0, hb⟩
  have hz6 : v5.heap.size ≤ v6.heap.size := by have := hb.size; simpa using this
  replace ht := below_then ht hb ht.size
  replace hb0 := hb0.below hb
  replace hx0 := hx0.below hb
  replace hx90 := hx90.below hb
  have hy0 := Fresh.of_whole (lo := v5.heap.size) (hi := v6.heap.size) hwy0 (by simpa using hgy0) hwy0.lt
  clear hgy0 hwy0
  clear hb
  refine hK.out _ _ ⟨hb0.cell 0, hb0.cell 1, hx90.cell 0, hx90.cell 1⟩ (fun hHeld => ?_)
  clear hK K
  try simp only [Act.put, List.getElem_toArray, List.getElem_cons_succ, List.getElem_cons_zero, List.setIfInBounds_toArray, List.set_cons_succ, List.set_cons_zero]
  refine wpAnyH_ready (rs := [3]) (by kernel_rfl) (by simp) (AllReadyH.cons rfl (fun K hK => ?_) AllReadyH.nil)
  go_simp
  refine (eqParty_yes _ _ n0 _ _ x0 k0 _ (by exact hx0.holds) (by exact hy0.holds) HX0.out (by omega)).mono ?_
  rintro e v7 ⟨rfl, hb⟩
  have hz7 : v6.heap.size ≤ v7.heap.size := by have := hb.size; simpa using this
  replace ht := below_then ht hb ht.size
  replace hb0 := hb0.below hb
  replace hx0 := hx0.below hb
  replace hx90 := hx90.below hb
  replace hy0 := hy0.below hb
  clear hb
  clear hy0
  refine hK.out _ _ ⟨hb0.cell 0, hb0.cell 1, hx90.cell 0, hx90.cell 1⟩ (fun hHeld => ?_)
  clear hK K
  try simp only [Act.put, List.getElem_toArray, List.getElem_cons_succ, List.getElem_cons_zero, List.setIfInBounds_toArray, List.set_cons_succ, List.set_cons_zero]
  refine wpAnyH_take (i := 4) (v := ?_) rfl (by kernel_rfl) (by kernel_rfl) (by kernel_rfl) (fun _ _ _ h => h) (Or.inl ⟨rfl, ?_⟩) hHeld ?_
  rotate_left
  · intro w' hS; obtain ⟨s0, s1, s2, s3⟩ := hS; go_simp <;> with_reducible rfl
  simp only [Act.put, List.getElem_toArray, List.getElem_cons_succ, List.getElem_cons_zero, List.setIfInBounds_toArray, List.set_cons_succ, List.set_cons_zero]
  refine wpAnyH_done (by kernel_rfl) ?_ _
  clear hHeld
  obtain ⟨hb0_0, hb0_1⟩ := hb0.cells2
  have hb0_l := hb0.lt
  obtain ⟨hx90_0, hx90_1⟩ := hx90.cells2
  have hx90_l := hx90.lt
  go_wp2
  go_ret
  exact ⟨rfl, ht⟩

theorem lawReachedIn_all (A0 : Option Addr) (n0 c0 : Nat) (x0 : List Int) (k0 : Int) (k1 : Int) (w : World) (h0 : Holds w A0 (nums x0)) (hx0 : x0.length = n0) (hn0 : n0 ≤ 9223372036854775807) (_hk1 : -9223372036854775808 ≤ k1 ∧ k1 ≤ 9223372036854775807) :
    Calls Try.prog 8 #[.agg #[.slice A0 n0 c0, .int .i64 k0], .int .i64 k1] w fun e w' => e = .returned (.bool true) ∧ Below w.heap.size w w' := by
  rcases (inferInstance : Decidable (0 ≤ 1048576 - (n0 : Int))) with g0 | g0
  · exact lawReachedIn_big0 A0 n0 c0 x0 k0 k1 w h0 hx0 hn0  (by omega)
  exact lawReachedIn_small A0 n0 c0 x0 k0 k1 w h0 hx0 hn0 g0
end Go.Proofs.Ytcikimjpjebflaa

namespace Go.Proofs.Ytcikimjpjebflaa.reachedIn
open Go.ChangeShapes Go.WideShapes Go.ChangeAt Go.RowKit Go.Joins

set_option maxRecDepth 100000 in
theorem lifted (os : Os) (started : os.Started) (H : Type) (enc : TypeId × Value → H) :
    ReturnsInHanded {} Try.checked os 8 .any (Rows.fnExactReachedInSpec.pre6 enc Try.prog Try.f8 Rows.fnExactReachedInRow.domain false) (Rows.fnExactReachedInSpec.post enc Try.prog Try.f8 false true false false) := by
  refine returnsInHanded_of_change (C := Try.checked) own started (by kernel_rfl) Try.func8
    (ChangeSpec.witness6 (enc := enc) (C := Try.checked) false ⟨#[], #[.agg #[.slice none 0 0, .int .i64 0], .int .i64 0], []⟩ 8 (by kernel_rfl) (by kernel_rfl) (by kernel_rfl) (by kernel_rfl)) ?_
  intro W base args ds gs before hval0 hW hcnd _
  have hval : ∀ (j : Nat) t v, Try.f8.params[j]? = some t → args[j]? = some v → Value.okWide Try.prog W .any base t v := hval0
  have hW' := hW
  obtain ⟨p, q, hA0, hV, rfl, hfz, hnd⟩ := hW
  have hA : DataW.TrodAll enc Try.prog W 0 (fun _ => true) true Try.f8.params.toList args.toList ds p := hA0
  rw [Try.params8] at hA hval
  obtain ⟨v0, vs0, d0, ds0, p0, q0, hargs, rfl, rfl, h0, r0⟩ := trodAll_cons hA
  obtain ⟨v1, vs1, d1, ds1, p1, q1, rfl, rfl, rfl, h1, r1⟩ := trodAll_cons r0
  obtain ⟨rfl, rfl, rfl⟩ := trodAll_nil r1
  obtain rfl : args = #[v0, v1] := by cases args; simp_all
  obtain ⟨rfl, rfl⟩ := trodVars_none hV
  have lt0 : ∀ x ∈ p0, x.block < W.heap.size := by obtain ⟨m, hm⟩ := h0; exact DataW.trod_lt m _ _ _ hm
  have lt1 : ∀ x ∈ p1, x.block < W.heap.size := by obtain ⟨m, hm⟩ := h1; exact DataW.trod_lt m _ _ _ hm
  obtain ⟨A0, n0, c0, xs0, s0, hv0, hr0, hx0, hn0⟩ := open_party (hval 0 24 v0 rfl rfl) h0
  subst hv0
  obtain ⟨k1, hv1, hk1⟩ := open_whole (hval 1 3 v1 rfl rfl) h1
  subst hv1
  clear hA0 hval0
  refine (lawReachedIn_all A0 n0 c0 xs0 s0 k1 W hr0 hx0 hn0 hk1).mono fun e W' ⟨he, bel⟩ => ?_
  subst he
  exact ⟨_, rfl, _, _, _, [], _, [], hW', trodAll_mk1 (shut_bool Try.underlying4 _), (trodAll_cons_mk (Below.trod laidOut (by kernel_rfl) (of_decide_eq_true (by kernel_rfl)) h0 bel lt0) (trodAll_cons_mk (Below.trod laidOut (by kernel_rfl) (of_decide_eq_true (by kernel_rfl)) h1 bel lt1) trodAll_mk0)), rfl, bel.frame _, fun h => by cases h⟩

set_option maxHeartbeats 8000000 in
theorem facts : joinedFacts Try.prog 8 Try.f8 Rows.fnExactReachedInSpec Rows.fnExactReachedInRow = true := by
  unfold joinedFacts
  rw [enter.laid, enter.rowed, enter.heard, enter.keys, enter.mayEnter, enter.liftsFinal, enter.make]
  simp only [Bool.and_eq_true]
  repeat' apply And.intro
  all_goals (first | exact True.intro | (as_aux_lemma => kernel_rfl))

theorem named_ : Try.prog.funcNamed Rows.fnExactReachedInRow.func = some 8 := by kernel_rfl
theorem instance_ : Try.f8.isInstance Try.prog Rows.fnExactReachedInRow.origin Rows.fnExactReachedInRow.targs := of_decide_eq_true (by kernel_rfl)
theorem wrapper_ : Try.f8.isWrapper Try.prog Rows.fnExactReachedInRow.wrapper Rows.fnExactReachedInRow.mainSum := by
  unfold Func.isWrapper; first | (rw [if_pos (by decide +kernel)]; kernel_rfl) | (rw [if_neg (by decide +kernel)]; exact ⟨rfl, rfl⟩)

theorem proved : Rows.FnExactReachedInSaid :=
  OpenClaim.holds_of_wide 8 Try.f8 rfl rfl rfl rfl rfl rfl rfl ⟨rfl, rfl, rfl, rfl, rfl⟩ rfl rfl rfl rfl rfl named_ Try.func8 facts
    instance_ wrapper_ (fun os started H enc _ => lifted os started H enc)
#print axioms proved
end Go.Proofs.Ytcikimjpjebflaa.reachedIn
