/-
  What is proved: the given statement on FnExactCostOf: at every argument of its kinds the law returns true and the arguments read as before. Conditions: none beyond the statement's own.
  Beside it, what it stands on:
  What is proved: contracts of LeastTime, of the model and of the program. Conditions: the party's times are read as they lie.
  What is proved: contracts of CostOf, of the model and of the program. Conditions: the party's times are read as they lie.
  What is proved: the law FnExactCostOf returns true at every argument, and leaves all that was there as it was. Conditions: the arguments are read as they lie.
-/
import Derived.Deep.RegionHeld3
import Derived.JoinedOf
import Derived.Test.YtcikimjpjebflaaJ1CostOf
set_option linter.unusedSimpArgs false
set_option linter.unusedVariables false
namespace Go.Proofs.Ytcikimjpjebflaa
open Go.RowKit Go.Maps Go.WideShapes

noncomputable def leastOk (xs : List Int) (s : Int) : Bool := isParty xs s && planOk xs xs.length s.toNat
noncomputable def leastV (xs : List Int) (s : Int) : Int := if leastOk xs s then leastP xs xs.length s.toNat else 0
theorem leastOk_none {xs : List Int} {s : Int} (h : isParty xs s = false) : leastOk xs s = false ∧ leastV xs s = 0 := by simp [leastV, leastOk, h]
theorem leastOk_at {xs : List Int} {q : Nat} (h : isParty xs (q : Int) = true) : leastOk xs (q : Int) = planOk xs xs.length q := by simp [leastOk, h]
theorem leastV_yes {xs : List Int} {q : Nat} (h : isParty xs (q : Int) = true) (hp : planOk xs xs.length q = true) : leastV xs (q : Int) = leastP xs xs.length q := by simp [leastV, leastOk, h, hp]
theorem leastV_no {xs : List Int} {q : Nat} (h : isParty xs (q : Int) = true) (hp : planOk xs xs.length q = false) : leastV xs (q : Int) = 0 := by simp [leastV, leastOk, h, hp]
theorem leastP_yes {xs : List Int} {n q : Nat} (hx : xs.length = n) (hxs : ∀ y ∈ xs, 1 ≤ y) (hp : planOk xs n q = true) : 0 ≤ leastP xs n q := by
  obtain ⟨v, hv⟩ := Option.isSome_iff_exists.1 hp
  rw [leastP, hv]
  exact time_low hx hxs hv
theorem leastP_no {xs : List Int} {n q : Nat} (hp : planOk xs n q = false) : leastP xs n q = -1 := by
  unfold planOk at hp
  rw [leastP]
  cases hv : timeST xs n q (falses n, false) (trues n, true) with
  | none => rfl
  | some v => rw [hv] at hp; simp at hp
theorem leastP_val {xs : List Int} {n q : Nat} (hx : xs.length = n) (hn : n ≤ 8) (hxs : ∀ y ∈ xs, 1 ≤ y) (hp : planOk xs n q = true) : (partyD xs n q (codeOf (trues n) true) 0).getD 0 = leastP xs n q := by
  rw [party_first hx hn hxs, leastP]
  obtain ⟨v, hv⟩ := Option.isSome_iff_exists.1 hp
  rw [hv]
  rfl

set_option maxHeartbeats 3200000 in
set_option maxRecDepth 100000 in
theorem specLeastTime_any (A : Option Addr) (n c : Nat) (xs : List Int) (s : Int) (w : World) (hA0 : Holds w A (nums xs)) (hx : xs.length = n) (hn : n ≤ 9223372036854775807) :
    Calls Try.prog 16 #[.agg #[.slice A n c, .int .i64 s]] w fun e w' => e = .returned (.tuple #[.int .i64 (leastV xs s), .bool (leastOk xs s)]) ∧ Below w.heap.size w w' := by
  have hA := hA0.alloc (.cells #[.slice A n c, .int .i64 s] 28)
  have hq := Whole.fresh w 28 #[.slice A n c, .int .i64 s]
  have HT := Lib.hid (below1 w (.cells #[.slice A n c, .int .i64 s] 28))
  cases hp : isParty xs s
  · have HV := Lib.hid (leastOk_none hp)
    have HP := Lib.hid hp
    have HX := Lib.hid hx
    have HA := Lib.hid hA
    clear hp hA hA0 hx
    go_enter Try.func16, Try.ntmps16
    go_wp2_with fail
    refine (paGood_any A n c xs s _ HA.out HX.out hn).mono ?_
    rintro e w1 ⟨rfl, hb⟩
    rw [HP.out]
    have HT1 := Lib.hid (below_then HT.out hb HT.out.size)
    clear hb hq
    go_wp2
    go_ret2
    exact ⟨by rw [HV.out.1, HV.out.2]; rfl, HT1.out⟩
  · obtain ⟨q, rfl⟩ : ∃ q : Nat, s = (q : Int) := ⟨s.toNat, by simp only [isParty, Bool.and_eq_true, within_iff] at hp; omega⟩
    obtain ⟨g1, g8, gq1, gq8, gxs⟩ := party_parts hp
    subst hx
    have HP := Lib.hid hp
    have HA := Lib.hid hA
    have HXS := Lib.hid gxs
    have HOK := Lib.hid (leastOk_at hp)
    cases hpl : planOk xs xs.length q
    · have HV := Lib.hid (leastV_no hp hpl)
      have HLP := Lib.hid (leastP_no hpl)
      have HPL := Lib.hid hpl
      clear hp hA hA0 gxs hpl
      go_enter Try.func16, Try.ntmps16
      go_wp2_with fail
      refine (paGood_any A xs.length c xs (q : Int) _ HA.out rfl hn).mono ?_
      rintro e w1 ⟨rfl, hb⟩
      rw [HP.out]
      have HT1 := Lib.hid (below_then HT.out hb HT.out.size)
      have HA1 := Lib.hid (HA.out.below hb)
      replace hq := hq.below hb
      obtain ⟨k0, k1⟩ := hq.cells2
      have hql := hq.lt
      clear hb
      go_wp2_with fail
      refine (seLeast_any A xs.length c q xs _ HA1.out rfl g1 g8 gq8 HXS.out).mono ?_
      rintro e w2 ⟨rfl, hb⟩
      rw [HLP.out]
      have HT2 := Lib.hid (below_then HT1.out hb HT1.out.size)
      clear hb hq k0 k1 hql
      go_wp2
      go_ret2
      exact ⟨by rw [HV.out, HOK.out, HPL.out]; rfl, HT2.out⟩
    · have HV := Lib.hid (leastV_yes hp hpl)
      have HPL := Lib.hid hpl
      obtain ⟨v, hv⟩ : ∃ v, leastP xs xs.length q = v := ⟨_, rfl⟩
      have hv0 : 0 ≤ v := by rw [← hv]; exact leastP_yes rfl (fun y hy => (gxs y hy).1) hpl
      have hv1 : ¬ v < 0 := by omega
      have hd0 : decide (v < 0) = false := by simpa using hv1
      have HLV := Lib.hid hv
      clear hp hA hA0 gxs hpl hv
      go_enter Try.func16, Try.ntmps16
      go_wp2_with fail
      refine (paGood_any A xs.length c xs (q : Int) _ HA.out rfl hn).mono ?_
      rintro e w1 ⟨rfl, hb⟩
      rw [HP.out]
      have HT1 := Lib.hid (below_then HT.out hb HT.out.size)
      have HA1 := Lib.hid (HA.out.below hb)
      replace hq := hq.below hb
      obtain ⟨k0, k1⟩ := hq.cells2
      have hql := hq.lt
      clear hb
      go_wp2_with fail
      refine (seLeast_any A xs.length c q xs _ HA1.out rfl g1 g8 gq8 HXS.out).mono ?_
      rintro e w2 ⟨rfl, hb⟩
      rw [HLV.out]
      have HT2 := Lib.hid (below_then HT1.out hb HT1.out.size)
      have HA2 := Lib.hid (HA1.out.below hb)
      replace hq := hq.below hb
      clear k0 k1 hql hb
      obtain ⟨k0, k1⟩ := hq.cells2
      have hql := hq.lt
      go_wp2_with fail
      refine (seLeast_any A xs.length c q xs _ HA2.out rfl g1 g8 gq8 HXS.out).mono ?_
      rintro e w3 ⟨rfl, hb⟩
      rw [HLV.out]
      have HT3 := Lib.hid (below_then HT2.out hb HT2.out.size)
      clear hb hq k0 k1 hql
      go_wp2
      go_ret2
      exact ⟨by rw [HV.out, HLV.out, HOK.out, HPL.out]; rfl, HT3.out⟩

set_option maxHeartbeats 6400000 in
set_option maxRecDepth 100000 in
theorem implLeast_zero (A : Option Addr) (n c : Nat) (xs : List Int) (s : Int) (w : World)
    (hpl : Calls Try.prog 66 #[.agg #[.slice A n c, .int .i64 s]] (w.alloc (.cells #[.slice A n c, .int .i64 s] 28)) fun e w' => e = .returned (.tuple #[.agg zero11, .bool false]) ∧ Below (w.alloc (.cells #[.slice A n c, .int .i64 s] 28)).heap.size (w.alloc (.cells #[.slice A n c, .int .i64 s] 28)) w') :
    Calls Try.prog 18 #[.agg #[.slice A n c, .int .i64 s]] w fun e w' => e = .returned (.tuple #[.int .i64 0, .bool false]) ∧ Below w.heap.size w w' := by
  have HT := Lib.hid (below1 w (.cells #[.slice A n c, .int .i64 s] 28))
  have HPL := Lib.hid hpl
  clear hpl
  go_enter Try.func18, Try.ntmps18
  go_wp2_with fail
  refine HPL.out.mono ?_
  rintro e w1 ⟨rfl, hb⟩
  have HT1 := Lib.hid (below_then HT.out hb HT.out.size)
  have hbx : Whole (w1.alloc (.cells #[.slice none 0 0, .bool false, .bool false, .bool false, .bool false, .bool false, .bool false, .bool false, .bool false, .bool false, .map none] 86)) w1.heap.size 86 #[.slice none 0 0, .bool false, .bool false, .bool false, .bool false, .bool false, .bool false, .bool false, .bool false, .bool false, .map none] := Whole.fresh _ _ _
  have HT2 := Lib.hid (HT1.out.alloc HT1.out.size (.cells #[.slice none 0 0, .bool false, .bool false, .bool false, .bool false, .bool false, .bool false, .bool false, .bool false, .bool false, .map none] 86))
  clear hb
  unfold zero11
  obtain ⟨c0, c1, c2, c3, c4, c5, c6, c7, c8, c9, c10⟩ := cells11 hbx
  have hbl := hbx.lt
  go_wp2_with fail
  have hln := least_no (w1.alloc (.cells #[.slice none 0 0, .bool false, .bool false, .bool false, .bool false, .bool false, .bool false, .bool false, .bool false, .bool false, .map none] 86))
  unfold zero11 at hln
  refine hln.mono ?_
  clear hln
  rintro e w2 ⟨rfl, hb⟩
  have HT3 := Lib.hid (below_then HT2.out hb HT2.out.size)
  clear hb hbx c0 c1 c2 c3 c4 c5 c6 c7 c8 c9 c10 hbl
  go_wp2
  go_ret2
  exact ⟨rfl, HT3.out⟩
set_option maxHeartbeats 6400000 in
set_option maxRecDepth 100000 in
theorem implLeastTime_any (A : Option Addr) (n c : Nat) (xs : List Int) (s : Int) (w : World) (hA0 : Holds w A (nums xs)) (hx : xs.length = n) (hn : n ≤ 9223372036854775807) :
    Calls Try.prog 18 #[.agg #[.slice A n c, .int .i64 s]] w fun e w' => e = .returned (.tuple #[.int .i64 (leastV xs s), .bool (leastOk xs s)]) ∧ Below w.heap.size w w' := by
  have hA := hA0.alloc (.cells #[.slice A n c, .int .i64 s] 28)
  cases hp : isParty xs s
  · rw [(leastOk_none hp).1, (leastOk_none hp).2]
    exact implLeast_zero A n c xs s w (planned_none A n c xs s _ hA hx hn hp)
  · obtain ⟨q, rfl⟩ : ∃ q : Nat, s = (q : Int) := ⟨s.toNat, by simp only [isParty, Bool.and_eq_true, within_iff] at hp; omega⟩
    obtain ⟨g1, g8, gq1, gq8, gxs⟩ := party_parts hp
    cases hpl : planOk xs xs.length q
    · rw [leastV_no hp hpl, leastOk_at hp, hpl]
      exact implLeast_zero A n c xs (q : Int) w (planned_no A n c q xs _ hA hx hp (by rw [← hx]; exact hpl))
    · rw [leastV_yes hp hpl, leastOk_at hp, hpl]
      have hval := leastP_val rfl g8 (fun y hy => (gxs y hy).1) hpl
      rw [hx] at hval hpl ⊢
      have HVAL := Lib.hid hval
      have HPY := Lib.hid (planned_yes A n c q xs _ hA hx hp hpl)
      have HT := Lib.hid (below1 w (.cells #[.slice A n c, .int .i64 (q : Int)] 28))
      clear hp hA hA0 gxs hpl hx hval
      go_enter Try.func18, Try.ntmps18
      go_wp2_with fail
      refine HPY.out.mono ?_
      rintro e w1 ⟨E, cE, mb, rfl, hown, hmap, hb⟩
      have HT1 := Lib.hid (below_then HT.out hb HT.out.size)
      obtain ⟨x, hxx⟩ : ∃ x, codeOf (trues n) true = x := ⟨_, rfl⟩
      obtain ⟨k, hk⟩ : ∃ k, (upLists n q).length = k := ⟨_, rfl⟩
      obtain ⟨M, hM⟩ : ∃ M, partyD xs n q (codeOf (trues n) true) = M := ⟨_, rfl⟩
      rw [hM] at hmap HVAL
      rw [hxx, hk]
      have HMP := Lib.hid (hmap.alloc (.cells (routeC E k cE x mb) 86))
      have hbx : Whole (w1.alloc (.cells (routeC E k cE x mb) 86)) w1.heap.size 86 (routeC E k cE x mb) := Whole.fresh _ _ _
      have HT2 := Lib.hid (HT1.out.alloc HT1.out.size (.cells (routeC E k cE x mb) 86))
      clear hb hown hmap hxx hk hM
      have hln := least_yes E k cE x mb M _ HMP.out
      rw [HVAL.out] at hln
      have HLN := Lib.hid hln
      clear hln
      unfold routeC at HMP hbx HT2 HLN
      unfold routeC
      obtain ⟨c0, c1, c2, c3, c4, c5, c6, c7, c8, c9, c10⟩ := cells11 hbx
      have hbl := hbx.lt
      go_wp2_with fail
      refine HLN.out.mono ?_
      rintro e w2 ⟨rfl, hb⟩
      have HT3 := Lib.hid (below_then HT2.out hb HT2.out.size)
      clear hb hbx c0 c1 c2 c3 c4 c5 c6 c7 c8 c9 c10 hbl
      go_wp2
      go_ret2
      exact ⟨rfl, HT3.out⟩
end Go.Proofs.Ytcikimjpjebflaa

namespace Go.Proofs.Ytcikimjpjebflaa
open Go.RowKit Go.Maps Go.WideShapes

def FourG (g : Nat) (x y : Value) (h : Nat) (z u : Value) (w : World) : Prop := w.cell? ⟨g, 0, none⟩ = some x ∧ w.cell? ⟨g, 1, none⟩ = some y ∧ w.cell? ⟨h, 0, none⟩ = some z ∧ w.cell? ⟨h, 1, none⟩ = some u
theorem fourG_of {g h : Nat} {t t' : TypeId} {x y z u : Value} {w : World} (h1 : Whole w g t #[x, y]) (h2 : Whole w h t' #[z, u]) : FourG g x y h z u w := ⟨h1.cell 0, h1.cell 1, h2.cell 0, h2.cell 1⟩
noncomputable def costOk (xs : List Int) (s k : Int) : Bool := dropOk xs s k && (leastOk xs s && leastOk (dropXs xs s k) (dropSeats xs s k))
noncomputable def costV (xs : List Int) (s k : Int) : Int := if costOk xs s k then leastV xs s - leastV (dropXs xs s k) (dropSeats xs s k) else 0
theorem cost_none {xs : List Int} {s k : Int} (h : dropOk xs s k = false) : costOk xs s k = false ∧ costV xs s k = 0 := by simp [costV, costOk, h]
theorem cost_one {xs : List Int} {s k : Int} (h : leastOk xs s = false) : costOk xs s k = false ∧ costV xs s k = 0 := by simp [costV, costOk, h]
theorem cost_two {xs : List Int} {s k : Int} (h : leastOk (dropXs xs s k) (dropSeats xs s k) = false) : costOk xs s k = false ∧ costV xs s k = 0 := by simp [costV, costOk, h]
theorem cost_yes {xs : List Int} {s k : Int} (h : dropOk xs s k = true) (h1 : leastOk xs s = true) (h2 : leastOk (dropXs xs s k) (dropSeats xs s k) = true) : costOk xs s k = true ∧ costV xs s k = leastV xs s - leastV (dropXs xs s k) (dropSeats xs s k) := by simp [costV, costOk, h, h1, h2]
theorem party_less {xs : List Int} {s : Int} {k : Nat} (h : isParty xs s = true) (hk : k < xs.length) (h2 : 2 ≤ xs.length) : isParty (lessOne xs k) s = true := by
  have hl : (lessOne xs k).length = xs.length - 1 := by simp only [lessOne, List.length_append, List.length_take, List.length_drop]; omega
  simp only [isParty, allIn, Bool.and_eq_true, within_iff, List.all_eq_true] at h ⊢
  refine ⟨by rw [hl]; omega, fun y hy => h.2.1 y ?_, h.2.2⟩
  rcases List.mem_append.1 hy with hy | hy
  · exact List.mem_of_mem_take hy
  · exact List.mem_of_mem_drop hy
theorem leastV_at {xs : List Int} {q : Nat} (h : isParty xs (q : Int) = true) (h2 : leastOk xs (q : Int) = true) : leastV xs (q : Int) = leastP xs xs.length q := by rw [leastOk_at h] at h2; exact leastV_yes h h2

/-- Each way of least time is short. -/
theorem least_cap {α : Type} {E : α → Int → α → Prop} {dom : List α} {src : α} {B : Int} {d : α → Option Int} (hB : 0 ≤ B) (hE : ∀ x t y, E x t y → 1 ≤ t ∧ t ≤ B) (hL : Least E src d) (hd : ∀ x, d x ≠ none → x ∈ dom) {y : α} {v : Int} (h : d y = some v) : v ≤ B * (dom.length : Nat) := by
  have key : ∀ (n : Nat) (v : Int) (y : α), v ≤ n → d y = some v → v ≤ B * ((dom.filter fun x => decide (∃ u, d x = some u ∧ u < v)).length : Nat) := by
    intro n
    induction n with
    | zero =>
      intro v y hv hy
      have h0 := hL.low y v hy
      have : 0 ≤ B * ((dom.filter fun x => decide (∃ u, d x = some u ∧ u < v)).length : Nat) := Int.mul_nonneg hB (by omega)
      omega
    | succ n ih =>
      intro v y hv hy
      rcases hL.pred y v hy with ⟨-, rfl⟩ | ⟨x, t, a, hx, he, rfl⟩
      · exact Int.mul_nonneg hB (by omega)
      · obtain ⟨h1, h2⟩ := hE _ _ _ he
        have h3 := ih a x (by omega) hx
        have hlt : (dom.filter fun x => decide (∃ u, d x = some u ∧ u < a)).length < (dom.filter fun x => decide (∃ u, d x = some u ∧ u < a + t)).length := by
          refine filter_less (fun z _ hz => ?_) ⟨x, hd x (by rw [hx]; simp), ?_, ?_⟩
          · obtain ⟨u, hu, hlt⟩ := of_decide_eq_true hz
            exact decide_eq_true ⟨u, hu, by omega⟩
          · refine decide_eq_false ?_
            rintro ⟨u, hu, hlt⟩
            rw [hx] at hu
            have := Option.some.inj hu
            omega
          · exact decide_eq_true ⟨a, hx, by omega⟩
        generalize (dom.filter fun x => decide (∃ u, d x = some u ∧ u < a)).length = c at h3 hlt
        generalize (dom.filter fun x => decide (∃ u, d x = some u ∧ u < a + t)).length = c' at hlt
        have h4 := Int.mul_le_mul_of_nonneg_left (show ((c : Nat) : Int) + 1 ≤ (c' : Nat) by omega) hB
        rw [Int.mul_add, Int.mul_one] at h4
        omega
  have h0 := hL.low y v h
  have h1 := key v.toNat v y (by omega) h
  have h2 : (dom.filter fun x => decide (∃ u, d x = some u ∧ u < v)).length ≤ dom.length := List.length_filter_le _ _
  have h3 := Int.mul_le_mul_of_nonneg_left (show ((dom.filter fun x => decide (∃ u, d x = some u ∧ u < v)).length : Int) ≤ (dom.length : Nat) by omega) hB
  omega
theorem leastP_bd {xs : List Int} {n q : Nat} (hx : xs.length = n) (h1 : 1 ≤ n) (hn : n ≤ 8) (hq8 : q ≤ 8) (hxs : ∀ y ∈ xs, 1 ≤ y ∧ y ≤ 1000) : -1 ≤ leastP xs n q ∧ leastP xs n q ≤ 512000 := by
  classical
  cases hv : timeST xs n q (falses n, false) (trues n, true) with
  | none => rw [leastP, hv]; exact ⟨by decide, by decide⟩
  | some v =>
    have h0 := time_low hx (fun y hy => (hxs y hy).1) hv
    have hL := timeST_least (q := q) (a := (falses n, false)) hx (fun y hy => (hxs y hy).1)
    have hc := least_cap (B := 1000) (dom := (List.range (2 ^ (n + 1))).map (stateS n)) (by omega) (fun x t y he => by
      obtain ⟨-, l, hl, rfl, -⟩ := id he
      exact ⟨leg_time hx (fun y hy => (hxs y hy).1) he, (slow_boundF (fun y hy => (hxs y hy).1) (fun y hy => (hxs y hy).2)).2⟩) hL (fun x hxd => by
      obtain ⟨u, hu⟩ := Option.ne_none_iff_exists'.1 hxd
      have hl := time_len hx (fun y hy => (hxs y hy).1) (by simp [falses]) hu
      exact List.mem_map.2 ⟨numS x, List.mem_range.2 (numS_lt hl), stateS_num hl⟩) hv
    have h2 : ((List.range (2 ^ (n + 1))).map (stateS n)).length ≤ 512 := by
      rw [List.length_map, List.length_range]
      exact Nat.le_trans (Nat.pow_le_pow_right (by omega) (show n + 1 ≤ 9 by omega)) (by decide)
    rw [leastP, hv]
    show -1 ≤ v ∧ v ≤ 512000
    omega
theorem leastV_bd {xs : List Int} {s : Int} : 0 ≤ leastV xs s ∧ leastV xs s ≤ 512000 := by
  cases hk : leastOk xs s
  · simp [leastV, hk]
  · have hp := (Bool.and_eq_true_iff.1 hk).1
    obtain ⟨q, rfl⟩ : ∃ q : Nat, s = (q : Int) := ⟨s.toNat, by simp only [isParty, Bool.and_eq_true, within_iff] at hp; omega⟩
    obtain ⟨h1, hn, -, hq8, gxs⟩ := party_parts hp
    rw [leastV_at hp hk]
    have h := leastP_bd (q := q) rfl h1 hn hq8 gxs
    rw [leastOk_at hp] at hk
    have h2 := leastP_yes (q := q) rfl (fun y hy => (gxs y hy).1) hk
    omega
theorem plan_sign {xs : List Int} {n q : Nat} (hx : xs.length = n) (hxs : ∀ y ∈ xs, 1 ≤ y) : planOk xs n q = !decide (leastP xs n q < 0) := by
  cases hp : planOk xs n q
  · rw [leastP_no hp]; rfl
  · have h := leastP_yes hx hxs hp
    have h2 : ¬ leastP xs n q < 0 := by omega
    simp [h2]

set_option maxHeartbeats 6400000 in
set_option maxRecDepth 100000 in
set_option linter.unusedVariables false in
set_option linter.unusedSimpArgs false in
theorem specCost_any (A : Option Addr) (n c : Nat) (xs : List Int) (s k : Int) (w : World) (hA0 : Holds w A (nums xs)) (hx : xs.length = n) (hn0 : n ≤ 1048576) (hc : n ≤ c) :
    Calls Try.prog 37 #[.agg #[.slice A n c, .int .i64 s], .int .i64 k] w fun e w' => e = .returned (.tuple #[.int .i64 (costV xs s k), .bool (costOk xs s k)]) ∧ Below w.heap.size w w' := by
  have hdr := specDrop_any A n c xs s k _ (hA0.alloc (.cells #[.slice A n c, .int .i64 s] 28)) hx hn0 hc
  have HDR := Lib.hid hdr
  have HT := Lib.hid (below1 w (.cells #[.slice A n c, .int .i64 s] 28))
  have HA := Lib.hid (hA0.alloc (.cells #[.slice A n c, .int .i64 s] 28))
  have hq := Whole.fresh w 28 #[.slice A n c, .int .i64 s]
  clear hdr
  cases hok : dropOk xs s k
  · have HV := Lib.hid (cost_none hok)
    have HN := Lib.hid hok
    have HDX := Lib.hid (drop_no hok)
    clear hok hA0 hx hq
    go_enter Try.func37, Try.ntmps37
    go_wp2_with fail
    refine HDR.out.mono ?_
    rintro e w1 ⟨A2, c2, rfl, hF, hb⟩
    rw [HN.out, HDX.out.1, HDX.out.2]
    have HT1 := Lib.hid (below_then HT.out hb HT.out.size)
    have HT2 := Lib.hid (HT1.out.alloc HT1.out.size (.cells #[.slice A2 ([] : List Int).length c2, .int .i64 0] 28))
    clear hb hF
    go_wp2
    go_ret2
    exact ⟨by rw [HV.out.1, HV.out.2]; rfl, by simpa using HT2.out⟩
  · obtain ⟨hp, hk0, hkn, h2⟩ := dropOk_iff.1 hok
    obtain ⟨j, rfl⟩ := Int.eq_ofNat_of_zero_le hk0
    obtain ⟨q, rfl⟩ : ∃ q : Nat, s = (q : Int) := ⟨s.toNat, by simp only [isParty, Bool.and_eq_true, within_iff] at hp; omega⟩
    obtain ⟨h1, hn, gq1, hq8, gxs⟩ := party_parts hp
    obtain ⟨hdx, hds⟩ := drop_yes hok
    have hp2 : isParty (dropXs xs (q : Int) (j : Int)) (q : Int) = true := by rw [hdx]; exact party_less hp (by simp; omega) h2
    obtain ⟨hm1, hm8, -, -, gys⟩ := party_parts hp2
    obtain ⟨ys, hys⟩ : ∃ ys, ys = dropXs xs (q : Int) (j : Int) := ⟨_, rfl⟩
    rw [← hys] at hp2 hm1 hm8 gys
    have hds' : dropSeats xs (q : Int) (j : Int) = (q : Int) := hds
    have HN := Lib.hid hok
    have HX := Lib.hid hx
    have HXS := Lib.hid gxs
    have HYS := Lib.hid gys
    have HY9 := Lib.hid hys
    have HDS := Lib.hid hds'
    have HP1 := Lib.hid hp
    have HP2 := Lib.hid hp2
    rw [hx] at h1 hn
    obtain ⟨m2, hm2⟩ : ∃ m2, ys.length = m2 := ⟨_, rfl⟩
    have HY := Lib.hid hm2
    rw [hm2] at hm1 hm8
    obtain ⟨v1, hv1⟩ : ∃ v, leastP xs n q = v := ⟨_, rfl⟩
    obtain ⟨v2, hv2⟩ : ∃ v, leastP ys m2 q = v := ⟨_, rfl⟩
    have HV1 := Lib.hid hv1
    have HV2 := Lib.hid hv2
    have HB1 : Hid (-1 ≤ v1 ∧ v1 ≤ 512000) := by show _ ∧ _; rw [← hv1]; exact leastP_bd hx h1 hn hq8 gxs
    have HB2 : Hid (-1 ≤ v2 ∧ v2 ≤ 512000) := by show _ ∧ _; rw [← hv2]; exact leastP_bd hm2 hm1 hm8 hq8 gys
    have HRES : Hid (Ending.returned (.tuple #[.int .i64 (costV xs (q : Int) (j : Int)), .bool (costOk xs (q : Int) (j : Int))]) = .returned (.tuple #[.int .i64 (if v1 < 0 then 0 else if v2 < 0 then 0 else v1 - v2), .bool (!decide (v1 < 0) && !decide (v2 < 0))])) := by
      show _ = _
      have hL1 : leastOk xs (q : Int) = !decide (v1 < 0) := by rw [leastOk_at hp, hx, ← hv1]; exact plan_sign hx (fun y hy => (gxs y hy).1)
      have hL2 : leastOk (dropXs xs (q : Int) (j : Int)) (dropSeats xs (q : Int) (j : Int)) = !decide (v2 < 0) := by rw [hds', ← hys, leastOk_at hp2, hm2, ← hv2]; exact plan_sign hm2 (fun y hy => (gys y hy).1)
      by_cases g1 : v1 < 0
      · rw [(cost_one (by rw [hL1]; simp [g1])).1, (cost_one (by rw [hL1]; simp [g1])).2]
        simp [g1]
      · by_cases g2 : v2 < 0
        · rw [(cost_two (by rw [hL2]; simp [g2])).1, (cost_two (by rw [hL2]; simp [g2])).2]
          simp [g1, g2]
        · have k1 : leastOk xs (q : Int) = true := by rw [hL1]; simp [g1]
          have k2 : leastOk (dropXs xs (q : Int) (j : Int)) (dropSeats xs (q : Int) (j : Int)) = true := by rw [hL2]; simp [g2]
          rw [(cost_yes hok k1 k2).1, (cost_yes hok k1 k2).2, leastV_at hp k1, hds', ← hys, leastV_at hp2 (by rw [hds', ← hys] at k2; exact k2), hx, hm2, hv1, hv2]
          simp [g1, g2]
    clear hp hk0 hkn h2 hok hdx hds hds' hp2 gxs gys hys hx hA0 hm2 hv1 hv2
    have hvb1 := HB1.out.1
    have hvb2 := HB1.out.2
    have hvb3 := HB2.out.1
    have hvb4 := HB2.out.2
    by_cases g1 : v1 < 0
    · have hd1 : decide (v1 < 0) = true := by simpa using g1
      rw [if_pos g1, hd1] at HRES
      go_enter Try.func37, Try.ntmps37
      go_wp2_with fail
      refine HDR.out.mono ?_
      rintro e w1 ⟨A2, c2, rfl, hF, hb⟩
      rw [HN.out, HDS.out, ← HY9.out] 
      rw [← HY9.out] at hF
      rw [HY.out]
      have HT1 := Lib.hid (below_then HT.out hb HT.out.size)
      replace hq := (hq.below hb).alloc (.cells #[.slice A2 m2 c2, .int .i64 (q : Int)] 28)
      have hx1 := Whole.fresh w1 28 #[.slice A2 m2 c2, .int .i64 (q : Int)]
      have HT2 := Lib.hid (HT1.out.alloc HT1.out.size (.cells #[.slice A2 m2 c2, .int .i64 (q : Int)] 28))
      have HA1 := Lib.hid ((HA.out.below hb).alloc (.cells #[.slice A2 m2 c2, .int .i64 (q : Int)] 28))
      have HY1 := Lib.hid (hF.holds.alloc (.cells #[.slice A2 m2 c2, .int .i64 (q : Int)] 28))
      obtain ⟨k0, k1⟩ := hq.cells2
      have hql := hq.lt
      clear hb hF
      go_wp2_with fail
      refine (seLeast_any A n c q xs _ HA1.out HX.out h1 hn hq8 HXS.out).mono ?_
      rintro e w2 ⟨rfl, hb⟩
      rw [HV1.out]
      have HTW := Lib.hid (below_then HT2.out hb HT2.out.size)
      have HAW := Lib.hid (HA1.out.below hb)
      have HYW := Lib.hid (HY1.out.below hb)
      replace hq := hq.below hb
      replace hx1 := hx1.below hb
      clear hb k0 k1 hql
      go_wp2
      go_ret2
      exact ⟨by rw [HRES.out]; rfl, HTW.out⟩
    · have hd1 : decide (v1 < 0) = false := by simpa using g1
      rw [if_neg g1, hd1] at HRES
      by_cases g2 : v2 < 0
      · have hd2 : decide (v2 < 0) = true := by simpa using g2
        rw [if_pos g2, hd2] at HRES
        go_enter Try.func37, Try.ntmps37
        go_wp2_with fail
        refine HDR.out.mono ?_
        rintro e w1 ⟨A2, c2, rfl, hF, hb⟩
        rw [HN.out, HDS.out, ← HY9.out] 
        rw [← HY9.out] at hF
        rw [HY.out]
        have HT1 := Lib.hid (below_then HT.out hb HT.out.size)
        replace hq := (hq.below hb).alloc (.cells #[.slice A2 m2 c2, .int .i64 (q : Int)] 28)
        have hx1 := Whole.fresh w1 28 #[.slice A2 m2 c2, .int .i64 (q : Int)]
        have HT2 := Lib.hid (HT1.out.alloc HT1.out.size (.cells #[.slice A2 m2 c2, .int .i64 (q : Int)] 28))
        have HA1 := Lib.hid ((HA.out.below hb).alloc (.cells #[.slice A2 m2 c2, .int .i64 (q : Int)] 28))
        have HY1 := Lib.hid (hF.holds.alloc (.cells #[.slice A2 m2 c2, .int .i64 (q : Int)] 28))
        obtain ⟨k0, k1⟩ := hq.cells2
        have hql := hq.lt
        clear hb hF
        go_wp2_with fail
        refine (seLeast_any A n c q xs _ HA1.out HX.out h1 hn hq8 HXS.out).mono ?_
        rintro e w2 ⟨rfl, hb⟩
        rw [HV1.out]
        have HTW := Lib.hid (below_then HT2.out hb HT2.out.size)
        have HAW := Lib.hid (HA1.out.below hb)
        have HYW := Lib.hid (HY1.out.below hb)
        replace hq := hq.below hb
        replace hx1 := hx1.below hb
        clear hb k0 k1 hql
        obtain ⟨e0, e1⟩ := hx1.cells2
        have hel := hx1.lt
        go_wp2_with fail
        refine (seLeast_any A2 m2 c2 q ys _ HYW.out HY.out hm1 hm8 hq8 HYS.out).mono ?_
        rintro e w3 ⟨rfl, hb⟩
        rw [HV2.out]
        have HTW := Lib.hid (below_then HTW.out hb HTW.out.size)
        have HAW := Lib.hid (HAW.out.below hb)
        have HYW := Lib.hid (HYW.out.below hb)
        replace hq := hq.below hb
        replace hx1 := hx1.below hb
        clear hb e0 e1 hel
        obtain ⟨k0, k1⟩ := hq.cells2
        have hql := hq.lt
        obtain ⟨e0, e1⟩ := hx1.cells2
        have hel := hx1.lt
        go_wp2
        go_ret2
        exact ⟨by rw [HRES.out]; rfl, HTW.out⟩
      · have hd2 : decide (v2 < 0) = false := by simpa using g2
        rw [if_neg g2, hd2] at HRES
        go_enter Try.func37, Try.ntmps37
        go_wp2_with fail
        refine HDR.out.mono ?_
        rintro e w1 ⟨A2, c2, rfl, hF, hb⟩
        rw [HN.out, HDS.out, ← HY9.out] 
        rw [← HY9.out] at hF
        rw [HY.out]
        have HT1 := Lib.hid (below_then HT.out hb HT.out.size)
        replace hq := (hq.below hb).alloc (.cells #[.slice A2 m2 c2, .int .i64 (q : Int)] 28)
        have hx1 := Whole.fresh w1 28 #[.slice A2 m2 c2, .int .i64 (q : Int)]
        have HT2 := Lib.hid (HT1.out.alloc HT1.out.size (.cells #[.slice A2 m2 c2, .int .i64 (q : Int)] 28))
        have HA1 := Lib.hid ((HA.out.below hb).alloc (.cells #[.slice A2 m2 c2, .int .i64 (q : Int)] 28))
        have HY1 := Lib.hid (hF.holds.alloc (.cells #[.slice A2 m2 c2, .int .i64 (q : Int)] 28))
        obtain ⟨k0, k1⟩ := hq.cells2
        have hql := hq.lt
        clear hb hF
        go_wp2_with fail
        refine (seLeast_any A n c q xs _ HA1.out HX.out h1 hn hq8 HXS.out).mono ?_
        rintro e w2 ⟨rfl, hb⟩
        rw [HV1.out]
        have HTW := Lib.hid (below_then HT2.out hb HT2.out.size)
        have HAW := Lib.hid (HA1.out.below hb)
        have HYW := Lib.hid (HY1.out.below hb)
        replace hq := hq.below hb
        replace hx1 := hx1.below hb
        clear hb k0 k1 hql
        obtain ⟨e0, e1⟩ := hx1.cells2
        have hel := hx1.lt
        go_wp2_with fail
        refine (seLeast_any A2 m2 c2 q ys _ HYW.out HY.out hm1 hm8 hq8 HYS.out).mono ?_
        rintro e w3 ⟨rfl, hb⟩
        rw [HV2.out]
        have HTW := Lib.hid (below_then HTW.out hb HTW.out.size)
        have HAW := Lib.hid (HAW.out.below hb)
        have HYW := Lib.hid (HYW.out.below hb)
        replace hq := hq.below hb
        replace hx1 := hx1.below hb
        clear hb e0 e1 hel
        obtain ⟨k0, k1⟩ := hq.cells2
        have hql := hq.lt
        obtain ⟨e0, e1⟩ := hx1.cells2
        have hel := hx1.lt
        go_wp2_with fail
        obtain ⟨wv, hwv⟩ : ∃ W : World, W = w3 := ⟨_, rfl⟩
        rw [← hwv] at hq hx1 HTW HAW HYW ⊢
        clear k0 k1 hql e0 e1 hel
        refine wp_region_held_drew (S := (FourG w.heap.size (.slice A n c) (.int .i64 (q : Int)) w1.heap.size (.slice A2 m2 c2) (.int .i64 (q : Int)))) (by kernel_rfl) (fourG_of hq.drew hx1.drew) (fun hHeld => ?_)
        replace hq := hq.drew
        replace hx1 := hx1.drew
        have ht := (Below.refl wv.heap.size wv).drew
        generalize World.drew wv = wd at hq hx1 ht hHeld ⊢
        refine wpAnyH_take (i := 0) (v := ?_) rfl (by kernel_rfl) (by kernel_rfl) (by kernel_rfl) (fun _ _ _ h => h) (Or.inl ⟨rfl, ?_⟩) hHeld ?_
        rotate_left
        · intro w' hS; obtain ⟨s0, s1, s2, s3⟩ := hS; go_simp <;> with_reducible rfl
        simp only [Act.put, List.getElem_toArray, List.getElem_cons_succ, List.getElem_cons_zero, List.setIfInBounds_toArray, List.set_cons_succ, List.set_cons_zero]
        refine wpAnyH_take (i := 2) (v := ?_) rfl (by kernel_rfl) (by kernel_rfl) (by kernel_rfl) (fun _ _ _ h => h) (Or.inl ⟨rfl, ?_⟩) hHeld ?_
        rotate_left
        · intro w' hS; obtain ⟨s0, s1, s2, s3⟩ := hS; go_simp <;> with_reducible rfl
        simp only [Act.put, List.getElem_toArray, List.getElem_cons_succ, List.getElem_cons_zero, List.setIfInBounds_toArray, List.set_cons_succ, List.set_cons_zero]
        refine wpAnyH_ready (rs := [1]) (by kernel_rfl) (by simp) (AllReadyH.cons rfl (fun K hK => ?_) AllReadyH.nil)
        go_simp
        refine (seLeast_any A n c q xs _ (HAW.out.below ht) HX.out h1 hn hq8 HXS.out).mono ?_
        rintro e wdb ⟨rfl, hb⟩
        rw [HV1.out]
        replace hq := hq.below hb
        replace hx1 := hx1.below hb
        replace ht := below_then ht hb ht.size
        clear hb
        refine hK.out _ _ (fourG_of hq hx1) (fun hHeld => ?_)
        clear hK K
        try simp only [Act.put, List.getElem_toArray, List.getElem_cons_succ, List.getElem_cons_zero, List.setIfInBounds_toArray, List.set_cons_succ, List.set_cons_zero]
        refine wpAnyH_ready (rs := [3]) (by kernel_rfl) (by simp) (AllReadyH.cons rfl (fun K hK => ?_) AllReadyH.nil)
        go_simp
        refine (seLeast_any A2 m2 c2 q ys _ (HYW.out.below ht) HY.out hm1 hm8 hq8 HYS.out).mono ?_
        rintro e wdbd ⟨rfl, hb⟩
        rw [HV2.out]
        replace hq := hq.below hb
        replace hx1 := hx1.below hb
        replace ht := below_then ht hb ht.size
        clear hb
        refine hK.out _ _ (fourG_of hq hx1) (fun hHeld => ?_)
        clear hK K
        try simp only [Act.put, List.getElem_toArray, List.getElem_cons_succ, List.getElem_cons_zero, List.setIfInBounds_toArray, List.set_cons_succ, List.set_cons_zero]
        refine wpAnyH_take (i := 4) (v := ?_) rfl (by kernel_rfl) (by kernel_rfl) (by kernel_rfl) (fun _ _ _ h => h) (Or.inl ⟨rfl, ?_⟩) hHeld ?_
        rotate_left
        · intro w' hS; obtain ⟨s0, s1, s2, s3⟩ := hS; go_simp <;> with_reducible rfl
        simp only [Act.put, List.getElem_toArray, List.getElem_cons_succ, List.getElem_cons_zero, List.setIfInBounds_toArray, List.set_cons_succ, List.set_cons_zero]
        refine wpAnyH_take (i := 5) (v := ?_) rfl (by kernel_rfl) (by kernel_rfl) (by kernel_rfl) (fun _ _ _ h => h) (Or.inl ⟨rfl, ?_⟩) hHeld ?_
        rotate_left
        · intro w' hS; obtain ⟨s0, s1, s2, s3⟩ := hS; go_simp <;> with_reducible rfl
        simp only [Act.put, List.getElem_toArray, List.getElem_cons_succ, List.getElem_cons_zero, List.setIfInBounds_toArray, List.set_cons_succ, List.set_cons_zero]
        refine wpAnyH_take (i := 6) (v := ?_) rfl (by kernel_rfl) (by kernel_rfl) (by kernel_rfl) (fun _ _ _ h => h) (Or.inl ⟨rfl, ?_⟩) hHeld ?_
        rotate_left
        · intro w' hS; obtain ⟨s0, s1, s2, s3⟩ := hS; go_simp <;> with_reducible rfl
        simp only [Act.put, List.getElem_toArray, List.getElem_cons_succ, List.getElem_cons_zero, List.setIfInBounds_toArray, List.set_cons_succ, List.set_cons_zero]
        refine wpAnyH_done (by kernel_rfl) ?_ _
        clear hHeld
        have HTT := Lib.hid (below_then HTW.out ht HTW.out.size)
        clear ht hq hx1
        have hwr : IntKind.i64.wrap (v1 - v2) = v1 - v2 := IntWalk.i64_in _ (by omega)
        go_wp2
        go_ret2
        exact ⟨by rw [HRES.out]; show Ending.returned (.tuple #[.int .i64 (IntKind.i64.wrap (v1 - v2)), .bool true]) = _; rw [hwr]; rfl, HTT.out⟩

set_option maxHeartbeats 6400000 in
set_option maxRecDepth 100000 in
set_option linter.unusedVariables false in
set_option linter.unusedSimpArgs false in
theorem implCost_any (A : Option Addr) (n c : Nat) (xs : List Int) (s k : Int) (w : World) (hA0 : Holds w A (nums xs)) (hx : xs.length = n) (hn0 : n ≤ 1048576) (hc : n ≤ c) :
    Calls Try.prog 38 #[.agg #[.slice A n c, .int .i64 s], .int .i64 k] w fun e w' => e = .returned (.tuple #[.int .i64 (costV xs s k), .bool (costOk xs s k)]) ∧ Below w.heap.size w w' := by
  have hdr := implDrop_any A n c xs s k _ (hA0.alloc (.cells #[.slice A n c, .int .i64 s] 28)) hx hn0 hc
  have HDR := Lib.hid hdr
  have HT := Lib.hid (below1 w (.cells #[.slice A n c, .int .i64 s] 28))
  have HA := Lib.hid (hA0.alloc (.cells #[.slice A n c, .int .i64 s] 28))
  have hq := Whole.fresh w 28 #[.slice A n c, .int .i64 s]
  have HX := Lib.hid hx
  have hyl : (dropXs xs s k).length ≤ 1048576 := by
    cases h9 : dropOk xs s k
    · rw [(drop_no h9).1]; simp
    · rw [(drop_yes h9).1]; have := lessOne_le xs k.toNat; omega
  obtain ⟨ys, hys⟩ : ∃ ys, dropXs xs s k = ys := ⟨_, rfl⟩
  obtain ⟨m2, hm2⟩ : ∃ m2, ys.length = m2 := ⟨_, rfl⟩
  obtain ⟨s2, hs2⟩ : ∃ s2, dropSeats xs s k = s2 := ⟨_, rfl⟩
  have HYS := Lib.hid hys
  have HSS := Lib.hid hs2
  have HY := Lib.hid hm2
  rw [hys, hm2] at hyl
  rw [hys, hs2] at HDR
  clear hdr hx hA0
  cases hok : dropOk xs s k
  · have HV := Lib.hid (cost_none hok)
    have HN := Lib.hid hok
    clear hok hys hm2 hs2 hq
    go_enter Try.func38, Try.ntmps38
    go_wp2_with fail
    refine HDR.out.mono ?_
    rintro e w1 ⟨A2, c2, rfl, hF, hb⟩
    rw [HN.out, HY.out]
    have HT1 := Lib.hid (below_then HT.out hb HT.out.size)
    have HT2 := Lib.hid (HT1.out.alloc HT1.out.size (.cells #[.slice A2 m2 c2, .int .i64 s2] 28))
    clear hb hF
    go_wp2
    go_ret2
    exact ⟨by rw [HV.out.1, HV.out.2]; rfl, HT2.out⟩
  · have HN := Lib.hid hok
    have hcn := fun h : leastOk xs s = false => cost_one (k := k) h
    have hct := fun h : leastOk (dropXs xs s k) (dropSeats xs s k) = false => cost_two h
    have hcy := fun (h1 : leastOk xs s = true) (h2 : leastOk (dropXs xs s k) (dropSeats xs s k) = true) => cost_yes hok h1 h2
    rw [hys, hs2] at hct hcy
    obtain ⟨v1, hv1⟩ : ∃ v, leastV xs s = v := ⟨_, rfl⟩
    obtain ⟨v2, hv2⟩ : ∃ v, leastV ys s2 = v := ⟨_, rfl⟩
    rw [hv1, hv2] at hcy
    have HB1 : Hid (0 ≤ v1 ∧ v1 ≤ 512000) := by show _ ∧ _; rw [← hv1]; exact leastV_bd
    have HB2 : Hid (0 ≤ v2 ∧ v2 ≤ 512000) := by show _ ∧ _; rw [← hv2]; exact leastV_bd
    have hvb1 := HB1.out.1
    have hvb2 := HB1.out.2
    have hvb3 := HB2.out.1
    have hvb4 := HB2.out.2
    have HV1 := Lib.hid hv1
    have HV2 := Lib.hid hv2
    cases l1 : leastOk xs s
    · have HL1 := Lib.hid l1
      have HV := Lib.hid (hcn l1)
      clear hok hys hm2 hs2 hcn hct hcy hv1 hv2 l1
      go_enter Try.func38, Try.ntmps38
      go_wp2_with fail
      refine HDR.out.mono ?_
      rintro e w1 ⟨A2, c2, rfl, hF, hb⟩
      rw [HN.out, HY.out]
      have HT1 := Lib.hid (below_then HT.out hb HT.out.size)
      replace hq := (hq.below hb).alloc (.cells #[.slice A2 m2 c2, .int .i64 s2] 28)
      have hx1 := Whole.fresh w1 28 #[.slice A2 m2 c2, .int .i64 s2]
      have HT2 := Lib.hid (HT1.out.alloc HT1.out.size (.cells #[.slice A2 m2 c2, .int .i64 s2] 28))
      have HA1 := Lib.hid ((HA.out.below hb).alloc (.cells #[.slice A2 m2 c2, .int .i64 s2] 28))
      have HY1 := Lib.hid (hF.holds.alloc (.cells #[.slice A2 m2 c2, .int .i64 s2] 28))
      obtain ⟨k0, k1⟩ := hq.cells2
      have hql := hq.lt
      clear hb hF
      go_wp2_with fail
      refine (implLeastTime_any A n c xs s _ HA1.out HX.out (by omega)).mono ?_
      rintro e w2 ⟨rfl, hb⟩
      rw [HL1.out, HV1.out]
      have HTW := Lib.hid (below_then HT2.out hb HT2.out.size)
      have HYW := Lib.hid (HY1.out.below hb)
      replace hx1 := hx1.below hb
      clear hb k0 k1 hql hq
      go_wp2
      go_ret2
      exact ⟨by rw [HV.out.1, HV.out.2]; rfl, HTW.out⟩
    · have HL1 := Lib.hid l1
      cases l2 : leastOk ys s2
      · have HL2 := Lib.hid l2
        have HV := Lib.hid (hct l2)
        clear hok hys hm2 hs2 hcn hct hcy hv1 hv2 l1 l2
        go_enter Try.func38, Try.ntmps38
        go_wp2_with fail
        refine HDR.out.mono ?_
        rintro e w1 ⟨A2, c2, rfl, hF, hb⟩
        rw [HN.out, HY.out]
        have HT1 := Lib.hid (below_then HT.out hb HT.out.size)
        replace hq := (hq.below hb).alloc (.cells #[.slice A2 m2 c2, .int .i64 s2] 28)
        have hx1 := Whole.fresh w1 28 #[.slice A2 m2 c2, .int .i64 s2]
        have HT2 := Lib.hid (HT1.out.alloc HT1.out.size (.cells #[.slice A2 m2 c2, .int .i64 s2] 28))
        have HA1 := Lib.hid ((HA.out.below hb).alloc (.cells #[.slice A2 m2 c2, .int .i64 s2] 28))
        have HY1 := Lib.hid (hF.holds.alloc (.cells #[.slice A2 m2 c2, .int .i64 s2] 28))
        obtain ⟨k0, k1⟩ := hq.cells2
        have hql := hq.lt
        clear hb hF
        go_wp2_with fail
        refine (implLeastTime_any A n c xs s _ HA1.out HX.out (by omega)).mono ?_
        rintro e w2 ⟨rfl, hb⟩
        rw [HL1.out, HV1.out]
        have HTW := Lib.hid (below_then HT2.out hb HT2.out.size)
        have HYW := Lib.hid (HY1.out.below hb)
        replace hx1 := hx1.below hb
        clear hb k0 k1 hql hq
        obtain ⟨e0, e1⟩ := hx1.cells2
        have hel := hx1.lt
        go_wp2_with fail
        refine (implLeastTime_any A2 m2 c2 ys s2 _ HYW.out HY.out (by omega)).mono ?_
        rintro e w3 ⟨rfl, hb⟩
        rw [HL2.out, HV2.out]
        have HTW := Lib.hid (below_then HTW.out hb HTW.out.size)
        clear hb e0 e1 hel hx1
        go_wp2
        go_ret2
        exact ⟨by rw [HV.out.1, HV.out.2]; rfl, HTW.out⟩
      · have HL2 := Lib.hid l2
        have HV := Lib.hid (hcy l1 l2)
        clear hok hys hm2 hs2 hcn hct hcy hv1 hv2 l1 l2
        go_enter Try.func38, Try.ntmps38
        go_wp2_with fail
        refine HDR.out.mono ?_
        rintro e w1 ⟨A2, c2, rfl, hF, hb⟩
        rw [HN.out, HY.out]
        have HT1 := Lib.hid (below_then HT.out hb HT.out.size)
        replace hq := (hq.below hb).alloc (.cells #[.slice A2 m2 c2, .int .i64 s2] 28)
        have hx1 := Whole.fresh w1 28 #[.slice A2 m2 c2, .int .i64 s2]
        have HT2 := Lib.hid (HT1.out.alloc HT1.out.size (.cells #[.slice A2 m2 c2, .int .i64 s2] 28))
        have HA1 := Lib.hid ((HA.out.below hb).alloc (.cells #[.slice A2 m2 c2, .int .i64 s2] 28))
        have HY1 := Lib.hid (hF.holds.alloc (.cells #[.slice A2 m2 c2, .int .i64 s2] 28))
        obtain ⟨k0, k1⟩ := hq.cells2
        have hql := hq.lt
        clear hb hF
        go_wp2_with fail
        refine (implLeastTime_any A n c xs s _ HA1.out HX.out (by omega)).mono ?_
        rintro e w2 ⟨rfl, hb⟩
        rw [HL1.out, HV1.out]
        have HTW := Lib.hid (below_then HT2.out hb HT2.out.size)
        have HYW := Lib.hid (HY1.out.below hb)
        replace hx1 := hx1.below hb
        clear hb k0 k1 hql hq
        obtain ⟨e0, e1⟩ := hx1.cells2
        have hel := hx1.lt
        go_wp2_with fail
        refine (implLeastTime_any A2 m2 c2 ys s2 _ HYW.out HY.out (by omega)).mono ?_
        rintro e w3 ⟨rfl, hb⟩
        rw [HL2.out, HV2.out]
        have HTW := Lib.hid (below_then HTW.out hb HTW.out.size)
        clear hb e0 e1 hel hx1
        go_wp2
        go_ret2
        exact ⟨by rw [HV.out.1, HV.out.2]; rfl, HTW.out⟩
end Go.Proofs.Ytcikimjpjebflaa

namespace Go.Proofs.Ytcikimjpjebflaa
open Go.RowKit

set_option maxHeartbeats 800000 in
set_option linter.unusedVariables false in
theorem lawCostOf_big0 (A0 : Option Addr) (n0 c0 : Nat) (x0 : List Int) (k0 : Int) (k1 : Int) (w : World) (h0 : Holds w A0 (nums x0)) (hx0 : x0.length = n0) (hn0 : n0 ≤ 9223372036854775807)  (hbig : 1048576 - (n0 : Int) < 0) :
    Calls Try.prog 9 #[.agg #[.slice A0 n0 c0, .int .i64 k0], .int .i64 k1] w fun e w' => e = .returned (.bool true) ∧ Below w.heap.size w w' := by
  have hb0 := (Whole.fresh w 24 #[.slice A0 n0 c0, .int .i64 k0])
  have ht := below1 w (.cells #[.slice A0 n0 c0, .int .i64 k0] 24)
  have HX0 := Lib.hid hx0
  clear hx0
  obtain ⟨hb0_0, hb0_1⟩ := hb0.cells2
  have hb0_l := hb0.lt
  go_enter Try.func9, Try.ntmps9
  go_wp2_with fail
  refine (szParty_any A0 n0 c0 k0 (1048576) _ (by omega) (by omega) (by omega)).mono ?_
  rintro e v1 ⟨rfl, hb⟩
  rw [if_pos (by omega)]
  have hz1 : w.heap.size + 1 ≤ v1.heap.size := by have := hb.size; simpa using this
  replace ht := below_then ht hb ht.size
  replace hb0 := hb0.below hb
  clear hb
  clear hb0_0 hb0_1 hb0_l
  go_wp2
  go_ret
  exact ⟨rfl, ht⟩

set_option maxHeartbeats 12800000 in
set_option maxRecDepth 100000 in
set_option linter.unusedSimpArgs false in
set_option linter.unusedVariables false in
theorem lawCostOf_small (A0 : Option Addr) (n0 c0 : Nat) (x0 : List Int) (k0 : Int) (k1 : Int) (w : World) (h0 : Holds w A0 (nums x0)) (hx0 : x0.length = n0) (hn0 : n0 ≤ 9223372036854775807) (g0 : 0 ≤ 1048576 - (n0 : Int)) :
    Calls Try.prog 9 #[.agg #[.slice A0 n0 c0, .int .i64 k0], .int .i64 k1] w fun e w' => e = .returned (.bool true) ∧ Below w.heap.size w w' := by
  have hb0 := (Whole.fresh w 24 #[.slice A0 n0 c0, .int .i64 k0])
  have ht := below1 w (.cells #[.slice A0 n0 c0, .int .i64 k0] 24)
  have HX0 := Lib.hid hx0
  clear hx0
  obtain ⟨hb0_0, hb0_1⟩ := hb0.cells2
  have hb0_l := hb0.lt
  go_enter Try.func9, Try.ntmps9
  -- region 2
  go_wp2_with fail
  refine (szParty_any A0 n0 c0 k0 (1048576) _ (by omega) (by omega) (by omega)).mono ?_
  rintro e v1 ⟨rfl, hb⟩
  rw [if_neg (by omega)]
  have hz1 : w.heap.size + 1 ≤ v1.heap.size := by have := hb.size; simpa using this
  replace ht := below_then ht hb ht.size
  replace hb0 := hb0.below hb
  clear hb
  clear hb0_0 hb0_1 hb0_l
  obtain ⟨hb0_0, hb0_1⟩ := hb0.cells2
  have hb0_l := hb0.lt
  -- region 5
  go_wp2_with fail
  refine (toParty_own A0 n0 c0 x0 k0 _ (by exact h0.below ht) HX0.out (by omega)).mono ?_
  rintro e v2 ⟨gp0, rfl, hgp0, hwp0, hb⟩
  have hz2 : v1.heap.size ≤ v2.heap.size := by have := hb.size; simpa using this
  replace ht := below_then ht hb ht.size
  replace hb0 := hb0.below hb
  have hp0 := Fresh.of_whole (lo := v1.heap.size) (hi := v2.heap.size) hwp0 (by simpa using hgp0) hwp0.lt
  clear hgp0 hwp0
  clear hb
  clear hb0_0 hb0_1 hb0_l
  obtain ⟨hb0_0, hb0_1⟩ := hb0.cells2
  have hb0_l := hb0.lt
  go_wp2_with fail
  refine (specCost_any _ n0 _ x0 k0 k1 _ (by exact hp0.holds) HX0.out (by omega) (Nat.le_refl _)).mono ?_
  rintro e v3 ⟨rfl, hb⟩
  have hz3 : v2.heap.size ≤ v3.heap.size := by have := hb.size; simpa using this
  replace ht := below_then ht hb ht.size
  replace hb0 := hb0.below hb
  replace hp0 := hp0.below hb
  clear hb
  clear hp0
  clear hb0_0 hb0_1 hb0_l
  obtain ⟨hb0_0, hb0_1⟩ := hb0.cells2
  have hb0_l := hb0.lt
  -- region 6
  go_wp2_with fail
  refine (toParty_own A0 n0 c0 x0 k0 _ (by exact h0.below ht) HX0.out (by omega)).mono ?_
  rintro e v4 ⟨gx0, rfl, hgx0, hwx0, hb⟩
  have hz4 : v3.heap.size ≤ v4.heap.size := by have := hb.size; simpa using this
  replace ht := below_then ht hb ht.size
  replace hb0 := hb0.below hb
  have hx0 := Fresh.of_whole (lo := v3.heap.size) (hi := v4.heap.size) hwx0 (by simpa using hgx0) hwx0.lt
  clear hgx0 hwx0
  clear hb
  have hx90 := Whole.fresh v4 28 #[.slice (some ⟨gx0, 0, none⟩) n0 n0, .int .i64 k0]
  replace ht := ht.alloc ht.size (.cells #[.slice (some ⟨gx0, 0, none⟩) n0 n0, .int .i64 k0] 28)
  replace hb0 := hb0.alloc (.cells #[.slice (some ⟨gx0, 0, none⟩) n0 n0, .int .i64 k0] 28)
  replace hx0 := hx0.alloc (.cells #[.slice (some ⟨gx0, 0, none⟩) n0 n0, .int .i64 k0] 28)
  clear hb0_0 hb0_1 hb0_l
  obtain ⟨hb0_0, hb0_1⟩ := hb0.cells2
  have hb0_l := hb0.lt
  obtain ⟨hx90_0, hx90_1⟩ := hx90.cells2
  have hx90_l := hx90.lt
  -- region 7
  go_wp2_with fail
  refine (implCost_any _ n0 _ x0 k0 k1 _ (by exact hx0.holds) HX0.out (by omega) (Nat.le_refl _)).mono ?_
  rintro e v5 ⟨rfl, hb⟩
  have hz5 : v4.heap.size + 1 ≤ v5.heap.size := by have := hb.size; simpa using this
  replace ht := below_then ht hb ht.size
  replace hb0 := hb0.below hb
  replace hx0 := hx0.below hb
  replace hx90 := hx90.below hb
  clear hb
  clear hb0_0 hb0_1 hb0_l hx90_0 hx90_1 hx90_l
  obtain ⟨hb0_0, hb0_1⟩ := hb0.cells2
  have hb0_l := hb0.lt
  obtain ⟨hx90_0, hx90_1⟩ := hx90.cells2
  have hx90_l := hx90.lt
  -- region 10
  clear hb0_0 hb0_1 hb0_l hx90_0 hx90_1 hx90_l
  go_wp2_with fail
  refine wp_region_held_drew (S := (fun w' => w'.cell? ⟨w.heap.size, 0, none⟩ = some (.slice A0 n0 c0) ∧ w'.cell? ⟨w.heap.size, 1, none⟩ = some (.int .i64 k0) ∧ w'.cell? ⟨v4.heap.size, 0, none⟩ = some (.slice (some ⟨gx0, 0, none⟩) n0 n0) ∧ w'.cell? ⟨v4.heap.size, 1, none⟩ = some (.int .i64 k0))) (by kernel_rfl) ⟨hb0.drew.cell 0, hb0.drew.cell 1, hx90.drew.cell 0, hx90.drew.cell 1⟩ (fun hHeld => ?_)
  replace ht := ht.drew
  replace hb0 := hb0.drew
  replace hx0 := hx0.drew
  replace hx90 := hx90.drew
  refine wpAnyH_take (i := 0) (v := ?_) rfl (by kernel_rfl) (by kernel_rfl) (by kernel_rfl) (fun _ _ _ h => h) (Or.inl ⟨rfl, ?_⟩) hHeld ?_
  rotate_left
  · intro w' hS; obtain ⟨s0, s1, s2, s3⟩ := hS; go_simp <;> with_reducible rfl
  simp only [Act.put, List.getElem_toArray, List.getElem_cons_succ, List.getElem_cons_zero, List.setIfInBounds_toArray, List.set_cons_succ, List.set_cons_zero]
  refine wpAnyH_take (i := 1) (v := ?_) rfl (by kernel_rfl) (by kernel_rfl) (by kernel_rfl) (fun _ _ _ h => h) (Or.inl ⟨rfl, ?_⟩) hHeld ?_
  rotate_left
  · intro w' hS; obtain ⟨s0, s1, s2, s3⟩ := hS; go_simp <;> with_reducible rfl
  simp only [Act.put, List.getElem_toArray, List.getElem_cons_succ, List.getElem_cons_zero, List.setIfInBounds_toArray, List.set_cons_succ, List.set_cons_zero]
  refine wpAnyH_ready (rs := [2]) (by kernel_rfl) (by simp) (AllReadyH.cons rfl (fun K hK => ?_) AllReadyH.nil)
  go_simp
  refine (toParty_own A0 n0 c0 x0 k0 _ (by exact h0.below ht) HX0.out (by omega)).mono ?_
  rintro e v6 ⟨gy0, rfl, hgy0, hwy0, hb⟩
  have hz6 : v5.heap.size ≤ v6.heap.size := by have := hb.size; simpa using this
  replace ht := below_then ht hb ht.size
  replace hb0 := hb0.below hb
  replace hx0 := hx0.below hb
  replace hx90 := hx90.below hb
  have hy0 := Fresh.of_whole (lo := v5.heap.size) (hi := v6.heap.size) hwy0 (by simpa using hgy0) hwy0.lt
  clear hgy0 hwy0
  clear hb
  refine hK.out _ _ ⟨hb0.cell 0, hb0.cell 1, hx90.cell 0, hx90.cell 1⟩ (fun hHeld => ?_)
  clear hK K
  try simp only [Act.put, List.getElem_toArray, List.getElem_cons_succ, List.getElem_cons_zero, List.setIfInBounds_toArray, List.set_cons_succ, List.set_cons_zero]
  refine wpAnyH_ready (rs := [3]) (by kernel_rfl) (by simp) (AllReadyH.cons rfl (fun K hK => ?_) AllReadyH.nil)
  go_simp
  refine (eqParty_yes _ _ n0 _ _ x0 k0 _ (by exact hx0.holds) (by exact hy0.holds) HX0.out (by omega)).mono ?_
  rintro e v7 ⟨rfl, hb⟩
  have hz7 : v6.heap.size ≤ v7.heap.size := by have := hb.size; simpa using this
  replace ht := below_then ht hb ht.size
  replace hb0 := hb0.below hb
  replace hx0 := hx0.below hb
  replace hx90 := hx90.below hb
  replace hy0 := hy0.below hb
  clear hb
  clear hy0
  refine hK.out _ _ ⟨hb0.cell 0, hb0.cell 1, hx90.cell 0, hx90.cell 1⟩ (fun hHeld => ?_)
  clear hK K
  try simp only [Act.put, List.getElem_toArray, List.getElem_cons_succ, List.getElem_cons_zero, List.setIfInBounds_toArray, List.set_cons_succ, List.set_cons_zero]
  refine wpAnyH_take (i := 4) (v := ?_) rfl (by kernel_rfl) (by kernel_rfl) (by kernel_rfl) (fun _ _ _ h => h) (Or.inl ⟨rfl, ?_⟩) hHeld ?_
  rotate_left
  · intro w' hS; obtain ⟨s0, s1, s2, s3⟩ := hS; go_simp <;> with_reducible rfl
  simp only [Act.put, List.getElem_toArray, List.getElem_cons_succ, List.getElem_cons_zero, List.setIfInBounds_toArray, List.set_cons_succ, List.set_cons_zero]
  refine wpAnyH_done (by kernel_rfl) ?_ _
  clear hHeld
  obtain ⟨hb0_0, hb0_1⟩ := hb0.cells2
  have hb0_l := hb0.lt
  obtain ⟨hx90_0, hx90_1⟩ := hx90.cells2
  have hx90_l := hx90.lt
  go_wp2
  go_ret
  exact ⟨rfl, ht⟩

theorem lawCostOf_all (A0 : Option Addr) (n0 c0 : Nat) (x0 : List Int) (k0 : Int) (k1 : Int) (w : World) (h0 : Holds w A0 (nums x0)) (hx0 : x0.length = n0) (hn0 : n0 ≤ 9223372036854775807) (_hk1 : -9223372036854775808 ≤ k1 ∧ k1 ≤ 9223372036854775807) :
    Calls Try.prog 9 #[.agg #[.slice A0 n0 c0, .int .i64 k0], .int .i64 k1] w fun e w' => e = .returned (.bool true) ∧ Below w.heap.size w w' := by
  rcases (inferInstance : Decidable (0 ≤ 1048576 - (n0 : Int))) with g0 | g0
  · exact lawCostOf_big0 A0 n0 c0 x0 k0 k1 w h0 hx0 hn0  (by omega)
  exact lawCostOf_small A0 n0 c0 x0 k0 k1 w h0 hx0 hn0 g0
end Go.Proofs.Ytcikimjpjebflaa

namespace Go.Proofs.Ytcikimjpjebflaa.costOf
open Go.ChangeShapes Go.WideShapes Go.ChangeAt Go.RowKit Go.Joins

set_option maxRecDepth 100000 in
theorem lifted (os : Os) (started : os.Started) (H : Type) (enc : TypeId × Value → H) :
    ReturnsInHanded {} Try.checked os 9 .any (Rows.fnExactCostOfSpec.pre6 enc Try.prog Try.f9 Rows.fnExactCostOfRow.domain false) (Rows.fnExactCostOfSpec.post enc Try.prog Try.f9 false true false false) := by
  refine returnsInHanded_of_change (C := Try.checked) own started (by kernel_rfl) Try.func9
    (ChangeSpec.witness6 (enc := enc) (C := Try.checked) false ⟨#[], #[.agg #[.slice none 0 0, .int .i64 0], .int .i64 0], []⟩ 8 (by kernel_rfl) (by kernel_rfl) (by kernel_rfl) (by kernel_rfl)) ?_
  intro W base args ds gs before hval0 hW hcnd _
  have hval : ∀ (j : Nat) t v, Try.f9.params[j]? = some t → args[j]? = some v → Value.okWide Try.prog W .any base t v := hval0
  have hW' := hW
  obtain ⟨p, q, hA0, hV, rfl, hfz, hnd⟩ := hW
  have hA : DataW.TrodAll enc Try.prog W 0 (fun _ => true) true Try.f9.params.toList args.toList ds p := hA0
  rw [Try.params9] at hA hval
  obtain ⟨v0, vs0, d0, ds0, p0, q0, hargs, rfl, rfl, h0, r0⟩ := trodAll_cons hA
  obtain ⟨v1, vs1, d1, ds1, p1, q1, rfl, rfl, rfl, h1, r1⟩ := trodAll_cons r0
  obtain ⟨rfl, rfl, rfl⟩ := trodAll_nil r1
  obtain rfl : args = #[v0, v1] := by cases args; simp_all
  obtain ⟨rfl, rfl⟩ := trodVars_none hV
  have lt0 : ∀ x ∈ p0, x.block < W.heap.size := by obtain ⟨m, hm⟩ := h0; exact DataW.trod_lt m _ _ _ hm
  have lt1 : ∀ x ∈ p1, x.block < W.heap.size := by obtain ⟨m, hm⟩ := h1; exact DataW.trod_lt m _ _ _ hm
  obtain ⟨A0, n0, c0, xs0, s0, hv0, hr0, hx0, hn0⟩ := open_party (hval 0 24 v0 rfl rfl) h0
  subst hv0
  obtain ⟨k1, hv1, hk1⟩ := open_whole (hval 1 3 v1 rfl rfl) h1
  subst hv1
  clear hA0 hval0
  refine (lawCostOf_all A0 n0 c0 xs0 s0 k1 W hr0 hx0 hn0 hk1).mono fun e W' ⟨he, bel⟩ => ?_
  subst he
  exact ⟨_, rfl, _, _, _, [], _, [], hW', trodAll_mk1 (shut_bool Try.underlying4 _), (trodAll_cons_mk (Below.trod laidOut (by kernel_rfl) (of_decide_eq_true (by kernel_rfl)) h0 bel lt0) (trodAll_cons_mk (Below.trod laidOut (by kernel_rfl) (of_decide_eq_true (by kernel_rfl)) h1 bel lt1) trodAll_mk0)), rfl, bel.frame _, fun h => by cases h⟩

set_option maxHeartbeats 8000000 in
theorem facts : joinedFacts Try.prog 9 Try.f9 Rows.fnExactCostOfSpec Rows.fnExactCostOfRow = true := by
  unfold joinedFacts
  rw [enter.laid, enter.rowed, enter.heard, enter.keys, enter.mayEnter, enter.liftsFinal, enter.make]
  simp only [Bool.and_eq_true]
  repeat' apply And.intro
  all_goals (first | exact True.intro | (as_aux_lemma => kernel_rfl))

theorem named_ : Try.prog.funcNamed Rows.fnExactCostOfRow.func = some 9 := by kernel_rfl
theorem instance_ : Try.f9.isInstance Try.prog Rows.fnExactCostOfRow.origin Rows.fnExactCostOfRow.targs := of_decide_eq_true (by kernel_rfl)
theorem wrapper_ : Try.f9.isWrapper Try.prog Rows.fnExactCostOfRow.wrapper Rows.fnExactCostOfRow.mainSum := by
  unfold Func.isWrapper; first | (rw [if_pos (by decide +kernel)]; kernel_rfl) | (rw [if_neg (by decide +kernel)]; exact ⟨rfl, rfl⟩)

theorem proved : Rows.FnExactCostOfSaid :=
  OpenClaim.holds_of_wide 9 Try.f9 rfl rfl rfl rfl rfl rfl rfl ⟨rfl, rfl, rfl, rfl, rfl⟩ rfl rfl rfl rfl rfl named_ Try.func9 facts
    instance_ wrapper_ (fun os started H enc _ => lifted os started H enc)
#print axioms proved
end Go.Proofs.Ytcikimjpjebflaa.costOf
