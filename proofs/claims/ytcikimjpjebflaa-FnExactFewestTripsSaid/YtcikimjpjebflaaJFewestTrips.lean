/-
  What is proved: the given statement on FnExactFewestTrips: at every argument of its kinds the law returns true and the arguments read as before. Conditions: none beyond the statement's own.
  Beside it, what it stands on:
  What is proved: contracts of LeastTime, of the model and of the program. Conditions: the party's times are read as they lie.
  What is proved: contracts of TimesBySeats, of the model and of the program. Conditions: the party's times are read as they lie.
  What is proved: contracts of FewestTrips, of the model and of the program. Conditions: the party's times are read as they lie.
  What is proved: the law FnExactFewestTrips returns true at every argument, and leaves all that was there as it was. Conditions: the arguments are read as they lie.
-/
import Derived.Deep.DeepCutAuto
import Derived.Deep.RegionHeld3
import Derived.JoinedOf
import Derived.Test.YtcikimjpjebflaaJ1FewestTrips
set_option linter.unusedSimpArgs false
set_option linter.unusedVariables false
namespace Go.Proofs.Ytcikimjpjebflaa
open Go.RowKit Go.Maps Go.WideShapes

noncomputable def leastOk (xs : List Int) (s : Int) : Bool := isParty xs s && planOk xs xs.length s.toNat
noncomputable def leastV (xs : List Int) (s : Int) : Int := if leastOk xs s then leastP xs xs.length s.toNat else 0
theorem leastOk_none {xs : List Int} {s : Int} (h : isParty xs s = false) : leastOk xs s = false ∧ leastV xs s = 0 := by simp [leastV, leastOk, h]
theorem leastOk_at {xs : List Int} {q : Nat} (h : isParty xs (q : Int) = true) : leastOk xs (q : Int) = planOk xs xs.length q := by simp [leastOk, h]
theorem leastV_yes {xs : List Int} {q : Nat} (h : isParty xs (q : Int) = true) (hp : planOk xs xs.length q = true) : leastV xs (q : Int) = leastP xs xs.length q := by simp [leastV, leastOk, h, hp]
theorem leastV_no {xs : List Int} {q : Nat} (h : isParty xs (q : Int) = true) (hp : planOk xs xs.length q = false) : leastV xs (q : Int) = 0 := by simp [leastV, leastOk, h, hp]
theorem leastP_yes {xs : List Int} {n q : Nat} (hx : xs.length = n) (hxs : ∀ y ∈ xs, 1 ≤ y) (hp : planOk xs n q = true) : 0 ≤ leastP xs n q := by
  obtain ⟨v, hv⟩ := Option.isSome_iff_exists.1 hp
  rw [leastP, hv]
  exact time_low hx hxs hv
theorem leastP_no {xs : List Int} {n q : Nat} (hp : planOk xs n q = false) : leastP xs n q = -1 := by
  unfold planOk at hp
  rw [leastP]
  cases hv : timeST xs n q (falses n, false) (trues n, true) with
  | none => rfl
  | some v => rw [hv] at hp; simp at hp
theorem leastP_val {xs : List Int} {n q : Nat} (hx : xs.length = n) (hn : n ≤ 8) (hxs : ∀ y ∈ xs, 1 ≤ y) (hp : planOk xs n q = true) : (partyD xs n q (codeOf (trues n) true) 0).getD 0 = leastP xs n q := by
  rw [party_first hx hn hxs, leastP]
  obtain ⟨v, hv⟩ := Option.isSome_iff_exists.1 hp
  rw [hv]
  rfl

set_option maxHeartbeats 3200000 in
set_option maxRecDepth 100000 in
theorem specLeastTime_any (A : Option Addr) (n c : Nat) (xs : List Int) (s : Int) (w : World) (hA0 : Holds w A (nums xs)) (hx : xs.length = n) (hn : n ≤ 9223372036854775807) :
    Calls Try.prog 16 #[.agg #[.slice A n c, .int .i64 s]] w fun e w' => e = .returned (.tuple #[.int .i64 (leastV xs s), .bool (leastOk xs s)]) ∧ Below w.heap.size w w' := by
  have hA := hA0.alloc (.cells #[.slice A n c, .int .i64 s] 28)
  have hq := Whole.fresh w 28 #[.slice A n c, .int .i64 s]
  have HT := Lib.hid (below1 w (.cells #[.slice A n c, .int .i64 s] 28))
  cases hp : isParty xs s
  · have HV := Lib.hid (leastOk_none hp)
    have HP := Lib.hid hp
    have HX := Lib.hid hx
    have HA := Lib.hid hA
    clear hp hA hA0 hx
    go_enter Try.func16, Try.ntmps16
    go_wp2_with fail
    refine (paGood_any A n c xs s _ HA.out HX.out hn).mono ?_
    rintro e w1 ⟨rfl, hb⟩
    rw [HP.out]
    have HT1 := Lib.hid (below_then HT.out hb HT.out.size)
    clear hb hq
    go_wp2
    go_ret2
    exact ⟨by rw [HV.out.1, HV.out.2]; rfl, HT1.out⟩
  · obtain ⟨q, rfl⟩ : ∃ q : Nat, s = (q : Int) := ⟨s.toNat, by simp only [isParty, Bool.and_eq_true, within_iff] at hp; omega⟩
    obtain ⟨g1, g8, gq1, gq8, gxs⟩ := party_parts hp
    subst hx
    have HP := Lib.hid hp
    have HA := Lib.hid hA
    have HXS := Lib.hid gxs
    have HOK := Lib.hid (leastOk_at hp)
    cases hpl : planOk xs xs.length q
    · have HV := Lib.hid (leastV_no hp hpl)
      have HLP := Lib.hid (leastP_no hpl)
      have HPL := Lib.hid hpl
      clear hp hA hA0 gxs hpl
      go_enter Try.func16, Try.ntmps16
      go_wp2_with fail
      refine (paGood_any A xs.length c xs (q : Int) _ HA.out rfl hn).mono ?_
      rintro e w1 ⟨rfl, hb⟩
      rw [HP.out]
      have HT1 := Lib.hid (below_then HT.out hb HT.out.size)
      have HA1 := Lib.hid (HA.out.below hb)
      replace hq := hq.below hb
      obtain ⟨k0, k1⟩ := hq.cells2
      have hql := hq.lt
      clear hb
      go_wp2_with fail
      refine (seLeast_any A xs.length c q xs _ HA1.out rfl g1 g8 gq8 HXS.out).mono ?_
      rintro e w2 ⟨rfl, hb⟩
      rw [HLP.out]
      have HT2 := Lib.hid (below_then HT1.out hb HT1.out.size)
      clear hb hq k0 k1 hql
      go_wp2
      go_ret2
      exact ⟨by rw [HV.out, HOK.out, HPL.out]; rfl, HT2.out⟩
    · have HV := Lib.hid (leastV_yes hp hpl)
      have HPL := Lib.hid hpl
      obtain ⟨v, hv⟩ : ∃ v, leastP xs xs.length q = v := ⟨_, rfl⟩
      have hv0 : 0 ≤ v := by rw [← hv]; exact leastP_yes rfl (fun y hy => (gxs y hy).1) hpl
      have hv1 : ¬ v < 0 := by omega
      have hd0 : decide (v < 0) = false := by simpa using hv1
      have HLV := Lib.hid hv
      clear hp hA hA0 gxs hpl hv
      go_enter Try.func16, Try.ntmps16
      go_wp2_with fail
      refine (paGood_any A xs.length c xs (q : Int) _ HA.out rfl hn).mono ?_
      rintro e w1 ⟨rfl, hb⟩
      rw [HP.out]
      have HT1 := Lib.hid (below_then HT.out hb HT.out.size)
      have HA1 := Lib.hid (HA.out.below hb)
      replace hq := hq.below hb
      obtain ⟨k0, k1⟩ := hq.cells2
      have hql := hq.lt
      clear hb
      go_wp2_with fail
      refine (seLeast_any A xs.length c q xs _ HA1.out rfl g1 g8 gq8 HXS.out).mono ?_
      rintro e w2 ⟨rfl, hb⟩
      rw [HLV.out]
      have HT2 := Lib.hid (below_then HT1.out hb HT1.out.size)
      have HA2 := Lib.hid (HA1.out.below hb)
      replace hq := hq.below hb
      clear k0 k1 hql hb
      obtain ⟨k0, k1⟩ := hq.cells2
      have hql := hq.lt
      go_wp2_with fail
      refine (seLeast_any A xs.length c q xs _ HA2.out rfl g1 g8 gq8 HXS.out).mono ?_
      rintro e w3 ⟨rfl, hb⟩
      rw [HLV.out]
      have HT3 := Lib.hid (below_then HT2.out hb HT2.out.size)
      clear hb hq k0 k1 hql
      go_wp2
      go_ret2
      exact ⟨by rw [HV.out, HLV.out, HOK.out, HPL.out]; rfl, HT3.out⟩

set_option maxHeartbeats 6400000 in
set_option maxRecDepth 100000 in
theorem implLeast_zero (A : Option Addr) (n c : Nat) (xs : List Int) (s : Int) (w : World)
    (hpl : Calls Try.prog 66 #[.agg #[.slice A n c, .int .i64 s]] (w.alloc (.cells #[.slice A n c, .int .i64 s] 28)) fun e w' => e = .returned (.tuple #[.agg zero11, .bool false]) ∧ Below (w.alloc (.cells #[.slice A n c, .int .i64 s] 28)).heap.size (w.alloc (.cells #[.slice A n c, .int .i64 s] 28)) w') :
    Calls Try.prog 18 #[.agg #[.slice A n c, .int .i64 s]] w fun e w' => e = .returned (.tuple #[.int .i64 0, .bool false]) ∧ Below w.heap.size w w' := by
  have HT := Lib.hid (below1 w (.cells #[.slice A n c, .int .i64 s] 28))
  have HPL := Lib.hid hpl
  clear hpl
  go_enter Try.func18, Try.ntmps18
  go_wp2_with fail
  refine HPL.out.mono ?_
  rintro e w1 ⟨rfl, hb⟩
  have HT1 := Lib.hid (below_then HT.out hb HT.out.size)
  have hbx : Whole (w1.alloc (.cells #[.slice none 0 0, .bool false, .bool false, .bool false, .bool false, .bool false, .bool false, .bool false, .bool false, .bool false, .map none] 86)) w1.heap.size 86 #[.slice none 0 0, .bool false, .bool false, .bool false, .bool false, .bool false, .bool false, .bool false, .bool false, .bool false, .map none] := Whole.fresh _ _ _
  have HT2 := Lib.hid (HT1.out.alloc HT1.out.size (.cells #[.slice none 0 0, .bool false, .bool false, .bool false, .bool false, .bool false, .bool false, .bool false, .bool false, .bool false, .map none] 86))
  clear hb
  unfold zero11
  obtain ⟨c0, c1, c2, c3, c4, c5, c6, c7, c8, c9, c10⟩ := cells11 hbx
  have hbl := hbx.lt
  go_wp2_with fail
  have hln := least_no (w1.alloc (.cells #[.slice none 0 0, .bool false, .bool false, .bool false, .bool false, .bool false, .bool false, .bool false, .bool false, .bool false, .map none] 86))
  unfold zero11 at hln
  refine hln.mono ?_
  clear hln
  rintro e w2 ⟨rfl, hb⟩
  have HT3 := Lib.hid (below_then HT2.out hb HT2.out.size)
  clear hb hbx c0 c1 c2 c3 c4 c5 c6 c7 c8 c9 c10 hbl
  go_wp2
  go_ret2
  exact ⟨rfl, HT3.out⟩
set_option maxHeartbeats 6400000 in
set_option maxRecDepth 100000 in
theorem implLeastTime_any (A : Option Addr) (n c : Nat) (xs : List Int) (s : Int) (w : World) (hA0 : Holds w A (nums xs)) (hx : xs.length = n) (hn : n ≤ 9223372036854775807) :
    Calls Try.prog 18 #[.agg #[.slice A n c, .int .i64 s]] w fun e w' => e = .returned (.tuple #[.int .i64 (leastV xs s), .bool (leastOk xs s)]) ∧ Below w.heap.size w w' := by
  have hA := hA0.alloc (.cells #[.slice A n c, .int .i64 s] 28)
  cases hp : isParty xs s
  · rw [(leastOk_none hp).1, (leastOk_none hp).2]
    exact implLeast_zero A n c xs s w (planned_none A n c xs s _ hA hx hn hp)
  · obtain ⟨q, rfl⟩ : ∃ q : Nat, s = (q : Int) := ⟨s.toNat, by simp only [isParty, Bool.and_eq_true, within_iff] at hp; omega⟩
    obtain ⟨g1, g8, gq1, gq8, gxs⟩ := party_parts hp
    cases hpl : planOk xs xs.length q
    · rw [leastV_no hp hpl, leastOk_at hp, hpl]
      exact implLeast_zero A n c xs (q : Int) w (planned_no A n c q xs _ hA hx hp (by rw [← hx]; exact hpl))
    · rw [leastV_yes hp hpl, leastOk_at hp, hpl]
      have hval := leastP_val rfl g8 (fun y hy => (gxs y hy).1) hpl
      rw [hx] at hval hpl ⊢
      have HVAL := Lib.hid hval
      have HPY := Lib.hid (planned_yes A n c q xs _ hA hx hp hpl)
      have HT := Lib.hid (below1 w (.cells #[.slice A n c, .int .i64 (q : Int)] 28))
      clear hp hA hA0 gxs hpl hx hval
      go_enter Try.func18, Try.ntmps18
      go_wp2_with fail
      refine HPY.out.mono ?_
      rintro e w1 ⟨E, cE, mb, rfl, hown, hmap, hb⟩
      have HT1 := Lib.hid (below_then HT.out hb HT.out.size)
      obtain ⟨x, hxx⟩ : ∃ x, codeOf (trues n) true = x := ⟨_, rfl⟩
      obtain ⟨k, hk⟩ : ∃ k, (upLists n q).length = k := ⟨_, rfl⟩
      obtain ⟨M, hM⟩ : ∃ M, partyD xs n q (codeOf (trues n) true) = M := ⟨_, rfl⟩
      rw [hM] at hmap HVAL
      rw [hxx, hk]
      have HMP := Lib.hid (hmap.alloc (.cells (routeC E k cE x mb) 86))
      have hbx : Whole (w1.alloc (.cells (routeC E k cE x mb) 86)) w1.heap.size 86 (routeC E k cE x mb) := Whole.fresh _ _ _
      have HT2 := Lib.hid (HT1.out.alloc HT1.out.size (.cells (routeC E k cE x mb) 86))
      clear hb hown hmap hxx hk hM
      have hln := least_yes E k cE x mb M _ HMP.out
      rw [HVAL.out] at hln
      have HLN := Lib.hid hln
      clear hln
      unfold routeC at HMP hbx HT2 HLN
      unfold routeC
      obtain ⟨c0, c1, c2, c3, c4, c5, c6, c7, c8, c9, c10⟩ := cells11 hbx
      have hbl := hbx.lt
      go_wp2_with fail
      refine HLN.out.mono ?_
      rintro e w2 ⟨rfl, hb⟩
      have HT3 := Lib.hid (below_then HT2.out hb HT2.out.size)
      clear hb hbx c0 c1 c2 c3 c4 c5 c6 c7 c8 c9 c10 hbl
      go_wp2
      go_ret2
      exact ⟨rfl, HT3.out⟩
end Go.Proofs.Ytcikimjpjebflaa

namespace Go.Proofs.Ytcikimjpjebflaa
open Go.RowKit Go.Maps Go.WideShapes

/-- The least times with 1, 2, .. seats. -/
noncomputable def seatsTo (xs : List Int) (j : Nat) : List Int := (List.range j).map fun i => leastP xs xs.length (i + 1)
theorem seatsTo_next (xs : List Int) (j : Nat) : seatsTo xs (j + 1) = seatsTo xs j ++ [leastP xs xs.length (j + 1)] := by simp [seatsTo, List.range_succ]
theorem seatsTo_len (xs : List Int) (j : Nat) : (seatsTo xs j).length = j := by simp [seatsTo]
noncomputable def seatsL (xs : List Int) (s : Int) : List Int := if isParty xs s then seatsTo xs 3 else []
theorem seatsL_no {xs : List Int} {s : Int} (h : isParty xs s = false) : seatsL xs s = [] := by simp [seatsL, h]
theorem seatsL_yes {xs : List Int} {s : Int} (h : isParty xs s = true) : seatsL xs s = seatsTo xs 3 := by simp [seatsL, h]
theorem seatsL_le (xs : List Int) (s : Int) : (seatsL xs s).length ≤ 1048576 := by
  cases h : isParty xs s
  · rw [seatsL_no h]; simp
  · rw [seatsL_yes h, seatsTo_len]; omega
theorem party_seats {xs : List Int} {s : Int} (h : isParty xs s = true) {k : Nat} (h1 : 1 ≤ k) (h3 : k ≤ 3) : isParty xs (k : Int) = true := by
  simp only [isParty, Bool.and_eq_true, within_iff] at h ⊢
  exact ⟨h.1, h.2.1, by omega, by omega⟩
/-- A list of the call's own. -/
def SeatsPost (l : List Int) (ok : Bool) (w : World) (e : Ending) (w' : World) : Prop :=
  ∃ (B : Option Addr) (q : Nat), e = .returned (.tuple #[.slice B l.length q, .bool ok]) ∧ Fresh w' w.heap.size w'.heap.size 3 B (nums l) ∧ Below w.heap.size w w'

set_option maxHeartbeats 6400000 in
set_option maxRecDepth 100000 in
theorem specBySeats_any (A : Option Addr) (n c : Nat) (xs : List Int) (s : Int) (w : World) (hA0 : Holds w A (nums xs)) (hx : xs.length = n) (hn : n ≤ 1048576) :
    Calls Try.prog 39 #[.agg #[.slice A n c, .int .i64 s]] w (SeatsPost (seatsL xs s) (isParty xs s) w) := by
  obtain ⟨i0, hi, hz0, hz1, hz2⟩ := info_parts info_int
  have HI := Lib.hid hi
  have HZ0 := Lib.hid hz0
  have HZ1 := Lib.hid hz1
  have HZ2 := Lib.hid hz2
  have HA := Lib.hid (hA0.alloc (.cells #[.slice A n c, .int .i64 s] 28))
  have hq := Whole.fresh w 28 #[.slice A n c, .int .i64 s]
  have HT := Lib.hid (below1 w (.cells #[.slice A n c, .int .i64 s] 28))
  clear hi hz0 hz1 hz2
  cases hp : isParty xs s
  · skip
    have HV := Lib.hid (seatsL_no hp)
    have HP := Lib.hid hp
    have HX := Lib.hid hx
    clear hp hA0 hx hq
    go_enter Try.func39, Try.ntmps39
    go_wp2_with fail
    refine (paGood_any A n c xs s _ HA.out HX.out (by omega)).mono ?_
    rintro e w1 ⟨rfl, hb⟩
    rw [HP.out]
    have HT1 := Lib.hid (below_then HT.out hb HT.out.size)
    clear hb
    go_wp2
    go_ret2
    exact ⟨none, 0, by rw [HV.out]; rfl, by rw [HV.out]; exact .inl rfl, HT1.out⟩
  · skip
    obtain ⟨q, rfl⟩ : ∃ q : Nat, s = (q : Int) := ⟨s.toNat, by simp only [isParty, Bool.and_eq_true, within_iff] at hp; omega⟩
    obtain ⟨h1, h8, gq1, gq8, gxs⟩ := party_parts hp
    subst hx
    have HP := Lib.hid hp
    have HXS := Lib.hid gxs
    have HV := Lib.hid (seatsL_yes hp)
    have HOK : Hid (∀ k : Nat, 1 ≤ k → k ≤ 3 → isParty xs (k : Int) = true) := fun k h1 h3 => party_seats hp h1 h3
    clear hp hA0 gxs
    go_enter Try.func39, Try.ntmps39
    go_wp2_with fail
    refine (paGood_any A xs.length c xs (q : Int) _ HA.out rfl (by omega)).mono ?_
    rintro e w1 ⟨rfl, hb⟩
    rw [HP.out]
    have HT1 := Lib.hid (below_then HT.out hb HT.out.size)
    have HA1 := Lib.hid (HA.out.below hb)
    have HQ1 := Lib.hid (hq.below hb)
    have hlw : w.heap.size < w1.heap.size := (hq.below hb).lt
    clear hb hq
    go_wp2
    go_loopw [4, 5] (fun v i wr => ∃ (j k : Nat) (Q : Option Addr) (r : Nat), k = j + 1 ∧ j ≤ 3 ∧ i = .int .i64 (k : Int) ∧ v = .slice Q j r ∧ wr.ownsRow w1.heap.size 3 1 (.slice Q j r) j (nums (seatsTo xs j)) ∧ Whole wr w.heap.size 28 #[.slice A xs.length c, .int .i64 (q : Int)] ∧ Below w1.heap.size w1 wr) (fun _ i _ => (4 - intOf i).toNat)
    case atStart => exact ⟨0, 1, none, 0, rfl, by omega, rfl, rfl, World.ownsRow_nil _ _ _ _, HQ1.out, Below.refl _ _⟩
    case round =>
      clear HQ1
      obtain ⟨j, k, Q, r, hkj, hj, rfl, rfl, hown, hq, hb⟩ := hrel
      obtain ⟨wz, rfl⟩ : ∃ X : World, X = wr := ⟨_, rfl⟩
      have hk1 : 1 ≤ k := by omega
      have hk4 : k ≤ 4 := by omega
      by_cases hlt : k ≤ 3
      · have hd1 : decide ((k : Int) ≤ 3) = true := by simp; omega
        have HKJ := Lib.hid hkj
        have hjb : j ≤ 2 := by omega
        have HNX : Hid (seatsTo xs (j + 1) = seatsTo xs j ++ [leastP xs xs.length k]) := by show _ = _; rw [seatsTo_next, hkj]
        obtain ⟨k0, k1⟩ := hq.cells2
        have hql := hq.lt
        have HOWN := Lib.hid hown
        have HQZ := Lib.hid hq
        have HBZ := Lib.hid hb
        have HAZ := Lib.hid (HA1.out.below hb)
        clear hkj hown hq hb
        go_wp2_with fail
        refine (seLeast_any A xs.length c k xs _ HAZ.out rfl h1 h8 (by omega) HXS.out).mono ?_
        rintro e w2 ⟨rfl, hb⟩
        obtain ⟨v, hv⟩ : ∃ v, leastP xs xs.length k = v := ⟨_, rfl⟩
        have HLP := Lib.hid hv
        rw [hv]
        clear hv
        have hne9 := cells_new w2 3 #[.int .i64 v]
        have HNEW := Lib.hid hne9
        have HB2 := Lib.hid (below_then HBZ.out hb HBZ.out.size)
        have HQ2 := Lib.hid ((HQZ.out.below hb).alloc (.cells #[.int .i64 v] 3))
        have HO2 := Lib.hid ((ownsRow_below HOWN.out hb).alloc (.cells #[.int .i64 v] 3))
        have HMAX := Lib.hid (show j + 1 ≤ maxLen by unfold maxLen; omega)
        have HBYT := Lib.hid (show (j + 1) * 8 ≤ 140737488355328 by omega)
        have HBASE := Lib.hid (show w1.heap.size ≤ (w2.alloc (.cells #[.int .i64 v] 3)).heap.size by have := HB2.out.size; simp; omega)
        clear hne9 hb k0 k1 hql
        go_wp2_with (at_builtin; refine wpList_append_own _ rfl (.tmp 13) (.tmp 19) 22 rfl w1.heap.size 3 i0 (.int .i64 0) 1 8 Try.underlying22 HI.out HZ0.out HZ1.out HZ2.out rfl (by decide) (.slice Q j r) j (nums (seatsTo xs j)) rfl HO2.out ⟨w2.heap.size, 0, none⟩ 1 1 [.int .i64 v] rfl rfl HNEW.out (by simp [Value.oneCell']) HMAX.out HBYT.out HBASE.out ?_; intro v' w5 hown5 hg5 _)
        obtain ⟨A5, q5, rfl⟩ := own_shapeP hown5
        have HQ5 := Lib.hid (whole_apart HQ2.out hg5 (fun e => absurd ((HO2.out.lt _ e.symm).1) (by omega)))
        have HB5 := Lib.hid ((HB2.out.alloc HB2.out.size (.cells #[.int .i64 v] 3)).grown hg5 HBASE.out (fun y hy => (HO2.out.lt y hy).1))
        have HO5 : Hid (w5.ownsRow w1.heap.size 3 1 (.slice A5 (j + 1) q5) (j + 1) (nums (seatsTo xs (j + 1)))) := by show World.ownsRow _ _ _ _ _ _ _; rw [HNX.out, HLP.out]; have h := hown5; rw [show nums (seatsTo xs j) ++ [Value.int .i64 v] = nums (seatsTo xs j ++ [v]) by simp [nums]] at h; exact h
        clear hown5 hg5
        have HK9 := Lib.hid (show k + 1 = j + 1 + 1 by have := HKJ.out; omega)
        go_roundw
        case rel => exact ⟨j + 1, k + 1, A5, q5, HK9.out, by omega, by go_num, rfl, HO5.out, HQ5.out, HB5.out⟩
        case measure => simp [intOf]; omega
      · have hd1 : decide ((k : Int) ≤ 3) = false := by simp; omega
        have hj3 : j = 3 := by omega
        subst hj3
        have HF := Lib.hid ((Fresh.of_own' hown).more (lo' := w.heap.size) (hi' := wz.heap.size) (by omega) (Nat.le_refl _))
        have HT2 := Lib.hid (below_then HT1.out hb HT1.out.size)
        clear hown hb hq hkj
        go_wp2
        go_ret2
        exact ⟨Q, r, (by rw [HV.out, seatsTo_len]; rfl), by rw [HV.out]; exact HF.out, HT2.out⟩

set_option maxHeartbeats 6400000 in
set_option maxRecDepth 100000 in
theorem implBySeats_any (A : Option Addr) (n c : Nat) (xs : List Int) (s : Int) (w : World) (hA0 : Holds w A (nums xs)) (hx : xs.length = n) (hn : n ≤ 1048576) :
    Calls Try.prog 40 #[.agg #[.slice A n c, .int .i64 s]] w (SeatsPost (seatsL xs s) (isParty xs s) w) := by
  obtain ⟨i0, hi, hz0, hz1, hz2⟩ := info_parts info_int
  have HI := Lib.hid hi
  have HZ0 := Lib.hid hz0
  have HZ1 := Lib.hid hz1
  have HZ2 := Lib.hid hz2
  have HA := Lib.hid (hA0.alloc (.cells #[.slice A n c, .int .i64 s] 28))
  have hq := Whole.fresh w 28 #[.slice A n c, .int .i64 s]
  have HT := Lib.hid (below1 w (.cells #[.slice A n c, .int .i64 s] 28))
  clear hi hz0 hz1 hz2
  cases hp : isParty xs s
  · skip
    have HV := Lib.hid (seatsL_no hp)
    have HP := Lib.hid hp
    have HX := Lib.hid hx
    clear hp hA0 hx hq
    go_enter Try.func40, Try.ntmps40
    go_wp2_with fail
    refine (isParty_any A n c xs s _ HA.out HX.out (by omega)).mono ?_
    rintro e w1 ⟨rfl, hb⟩
    rw [HP.out]
    have HT1 := Lib.hid (below_then HT.out hb HT.out.size)
    clear hb
    go_wp2
    go_ret2
    exact ⟨none, 0, by rw [HV.out]; rfl, by rw [HV.out]; exact .inl rfl, HT1.out⟩
  · skip
    obtain ⟨q, rfl⟩ : ∃ q : Nat, s = (q : Int) := ⟨s.toNat, by simp only [isParty, Bool.and_eq_true, within_iff] at hp; omega⟩
    obtain ⟨h1, h8, gq1, gq8, gxs⟩ := party_parts hp
    subst hx
    have HP := Lib.hid hp
    have HXS := Lib.hid gxs
    have HV := Lib.hid (seatsL_yes hp)
    have HOK : Hid (∀ k : Nat, 1 ≤ k → k ≤ 3 → isParty xs (k : Int) = true) := fun k h1 h3 => party_seats hp h1 h3
    clear hp hA0 gxs
    go_enter Try.func40, Try.ntmps40
    go_wp2_with fail
    refine (isParty_any A xs.length c xs (q : Int) _ HA.out rfl (by omega)).mono ?_
    rintro e w1 ⟨rfl, hb⟩
    rw [HP.out]
    have HT1 := Lib.hid (below_then HT.out hb HT.out.size)
    have HA1 := Lib.hid (HA.out.below hb)
    have HQ1 := Lib.hid (hq.below hb)
    have hlw : w.heap.size < w1.heap.size := (hq.below hb).lt
    clear hb hq
    go_wp2
    go_loopw [4, 5] (fun v i wr => ∃ (j k : Nat) (Q : Option Addr) (r : Nat), k = j + 1 ∧ j ≤ 3 ∧ i = .int .i64 (k : Int) ∧ v = .slice Q j r ∧ wr.ownsRow w1.heap.size 3 1 (.slice Q j r) j (nums (seatsTo xs j)) ∧ Whole wr w.heap.size 28 #[.slice A xs.length c, .int .i64 (q : Int)] ∧ Below w1.heap.size w1 wr) (fun _ i _ => (4 - intOf i).toNat)
    case atStart => exact ⟨0, 1, none, 0, rfl, by omega, rfl, rfl, World.ownsRow_nil _ _ _ _, HQ1.out, Below.refl _ _⟩
    case round =>
      clear HQ1
      obtain ⟨j, k, Q, r, hkj, hj, rfl, rfl, hown, hq, hb⟩ := hrel
      obtain ⟨wz, rfl⟩ : ∃ X : World, X = wr := ⟨_, rfl⟩
      have hk1 : 1 ≤ k := by omega
      have hk4 : k ≤ 4 := by omega
      by_cases hlt : k ≤ 3
      · have hd1 : decide ((k : Int) ≤ 3) = true := by simp; omega
        have HKJ := Lib.hid hkj
        have hjb : j ≤ 2 := by omega
        have HNX : Hid (seatsTo xs (j + 1) = seatsTo xs j ++ [leastP xs xs.length k]) := by show _ = _; rw [seatsTo_next, hkj]
        obtain ⟨k0, k1⟩ := hq.cells2
        have hql := hq.lt
        have HOWN := Lib.hid hown
        have HQZ := Lib.hid hq
        have HBZ := Lib.hid hb
        have HAZ := Lib.hid (HA1.out.below hb)
        clear hkj hown hq hb
        go_wp2_with fail
        refine (implLeastTime_any A xs.length c xs (k : Int) _ HAZ.out rfl (by omega)).mono ?_
        rintro e w2 ⟨rfl, hb⟩
        cases hpl : planOk xs xs.length k
        · have HLO : Hid (leastOk xs (k : Int) = false) := by show _ = _; rw [leastOk_at (HOK.out k hk1 hlt), hpl]
          obtain ⟨v, hv⟩ : ∃ v : Int, (-1 : Int) = v := ⟨_, rfl⟩
          have HLP : Hid (leastP xs xs.length k = v) := by show _ = _; rw [← hv]; exact leastP_no hpl
          rw [HLO.out]
          clear hpl
          subst hv
          have HW2 := Lib.hid hb
          go_upto_region 10 with fail
          have hne9 := cells_new w2 3 #[.int .i64 (-1)]
          have HNEW := Lib.hid hne9
          have HB2 := Lib.hid (below_then HBZ.out hb HBZ.out.size)
          have HQ2 := Lib.hid ((HQZ.out.below hb).alloc (.cells #[.int .i64 (-1)] 3))
          have HO2 := Lib.hid ((ownsRow_below HOWN.out hb).alloc (.cells #[.int .i64 (-1)] 3))
          have HMAX := Lib.hid (show j + 1 ≤ maxLen by unfold maxLen; omega)
          have HBYT := Lib.hid (show (j + 1) * 8 ≤ 140737488355328 by omega)
          have HBASE := Lib.hid (show w1.heap.size ≤ (w2.alloc (.cells #[.int .i64 (-1)] 3)).heap.size by have := HB2.out.size; simp; omega)
          clear hne9 hb k0 k1 hql
          go_wp2_with (at_builtin; refine wpList_append_own _ rfl (.tmp 25) (.tmp 27) 22 rfl w1.heap.size 3 i0 (.int .i64 0) 1 8 Try.underlying22 HI.out HZ0.out HZ1.out HZ2.out rfl (by decide) (.slice Q j r) j (nums (seatsTo xs j)) rfl HO2.out ⟨w2.heap.size, 0, none⟩ 1 1 [.int .i64 (-1)] rfl rfl HNEW.out (by simp [Value.oneCell']) HMAX.out HBYT.out HBASE.out ?_; intro v' w5 hown5 hg5 _)
          obtain ⟨A5, q5, rfl⟩ := own_shapeP hown5
          have HQ5 := Lib.hid (whole_apart HQ2.out hg5 (fun e => absurd ((HO2.out.lt _ e.symm).1) (by omega)))
          have HB5 := Lib.hid ((HB2.out.alloc HB2.out.size (.cells #[.int .i64 (-1)] 3)).grown hg5 HBASE.out (fun y hy => (HO2.out.lt y hy).1))
          have HO5 : Hid (w5.ownsRow w1.heap.size 3 1 (.slice A5 (j + 1) q5) (j + 1) (nums (seatsTo xs (j + 1)))) := by show World.ownsRow _ _ _ _ _ _ _; rw [HNX.out, HLP.out]; have h := hown5; rw [show nums (seatsTo xs j) ++ [Value.int .i64 (-1)] = nums (seatsTo xs j ++ [-1]) by simp [nums]] at h; exact h
          clear hown5 hg5
          have HK9 := Lib.hid (show k + 1 = j + 1 + 1 by have := HKJ.out; omega)
          go_roundw
          case rel => exact ⟨j + 1, k + 1, A5, q5, HK9.out, by omega, by go_num, rfl, HO5.out, HQ5.out, HB5.out⟩
          case measure => simp [intOf]; omega
        · have HLO : Hid (leastOk xs (k : Int) = true) := by show _ = _; rw [leastOk_at (HOK.out k hk1 hlt), hpl]
          obtain ⟨v, hv⟩ : ∃ v, leastP xs xs.length k = v := ⟨_, rfl⟩
          have HLP := Lib.hid hv
          rw [HLO.out, leastV_yes (HOK.out k hk1 hlt) hpl, hv]
          clear hpl hv
          go_upto_region 10 with fail
          have hne9 := cells_new w2 3 #[.int .i64 v]
          have HNEW := Lib.hid hne9
          have HB2 := Lib.hid (below_then HBZ.out hb HBZ.out.size)
          have HQ2 := Lib.hid ((HQZ.out.below hb).alloc (.cells #[.int .i64 v] 3))
          have HO2 := Lib.hid ((ownsRow_below HOWN.out hb).alloc (.cells #[.int .i64 v] 3))
          have HMAX := Lib.hid (show j + 1 ≤ maxLen by unfold maxLen; omega)
          have HBYT := Lib.hid (show (j + 1) * 8 ≤ 140737488355328 by omega)
          have HBASE := Lib.hid (show w1.heap.size ≤ (w2.alloc (.cells #[.int .i64 v] 3)).heap.size by have := HB2.out.size; simp; omega)
          clear hne9 hb k0 k1 hql
          go_wp2_with (at_builtin; refine wpList_append_own _ rfl (.tmp 25) (.tmp 27) 22 rfl w1.heap.size 3 i0 (.int .i64 0) 1 8 Try.underlying22 HI.out HZ0.out HZ1.out HZ2.out rfl (by decide) (.slice Q j r) j (nums (seatsTo xs j)) rfl HO2.out ⟨w2.heap.size, 0, none⟩ 1 1 [.int .i64 v] rfl rfl HNEW.out (by simp [Value.oneCell']) HMAX.out HBYT.out HBASE.out ?_; intro v' w5 hown5 hg5 _)
          obtain ⟨A5, q5, rfl⟩ := own_shapeP hown5
          have HQ5 := Lib.hid (whole_apart HQ2.out hg5 (fun e => absurd ((HO2.out.lt _ e.symm).1) (by omega)))
          have HB5 := Lib.hid ((HB2.out.alloc HB2.out.size (.cells #[.int .i64 v] 3)).grown hg5 HBASE.out (fun y hy => (HO2.out.lt y hy).1))
          have HO5 : Hid (w5.ownsRow w1.heap.size 3 1 (.slice A5 (j + 1) q5) (j + 1) (nums (seatsTo xs (j + 1)))) := by show World.ownsRow _ _ _ _ _ _ _; rw [HNX.out, HLP.out]; have h := hown5; rw [show nums (seatsTo xs j) ++ [Value.int .i64 v] = nums (seatsTo xs j ++ [v]) by simp [nums]] at h; exact h
          clear hown5 hg5
          have HK9 := Lib.hid (show k + 1 = j + 1 + 1 by have := HKJ.out; omega)
          go_roundw
          case rel => exact ⟨j + 1, k + 1, A5, q5, HK9.out, by omega, by go_num, rfl, HO5.out, HQ5.out, HB5.out⟩
          case measure => simp [intOf]; omega
      · have hd1 : decide ((k : Int) ≤ 3) = false := by simp; omega
        have hj3 : j = 3 := by omega
        subst hj3
        have HF := Lib.hid ((Fresh.of_own' hown).more (lo' := w.heap.size) (hi' := wz.heap.size) (by omega) (Nat.le_refl _))
        have HT2 := Lib.hid (below_then HT1.out hb HT1.out.size)
        clear hown hb hq hkj
        go_wp2
        go_ret2
        exact ⟨Q, r, (by rw [HV.out, seatsTo_len]; rfl), by rw [HV.out]; exact HF.out, HT2.out⟩
end Go.Proofs.Ytcikimjpjebflaa

namespace Go.Proofs.Ytcikimjpjebflaa
open Go.RowKit Go.Maps Go.WideShapes

def ones (n : Nat) : List Int := List.replicate n 1
theorem ones_len (n : Nat) : (ones n).length = n := by simp [ones]
theorem ones_next (n : Nat) : nums (ones n) ++ [Value.int .i64 1] = nums (ones (n + 1)) := by simp [ones, nums, List.replicate_succ']
theorem ones_party {xs : List Int} {s : Int} (h : isParty xs s = true) : isParty (ones xs.length) s = true := by
  simp only [isParty, allIn, Bool.and_eq_true, within_iff, List.all_eq_true] at h ⊢
  refine ⟨by rw [ones_len]; exact h.1, fun y hy => ?_, h.2.2⟩
  obtain rfl : y = 1 := (List.mem_replicate.1 hy).2
  omega
noncomputable def fewOk (xs : List Int) (s : Int) : Bool := isParty xs s && leastOk (ones xs.length) s
noncomputable def fewV (xs : List Int) (s : Int) : Int := if fewOk xs s then leastV (ones xs.length) s else 0
theorem few_none {xs : List Int} {s : Int} (h : isParty xs s = false) : fewV xs s = 0 ∧ fewOk xs s = false := by simp [fewV, fewOk, h]
theorem few_no {xs : List Int} {n q : Nat} (hx : xs.length = n) (h : isParty xs (q : Int) = true) (hp : planOk (ones n) n q = false) : fewV xs (q : Int) = 0 ∧ fewOk xs (q : Int) = false := by
  subst hx
  have h2 := leastOk_at (ones_party h)
  rw [ones_len, hp] at h2
  simp [fewV, fewOk, h, h2]
theorem few_yes {xs : List Int} {n q : Nat} (hx : xs.length = n) (h : isParty xs (q : Int) = true) (hp : planOk (ones n) n q = true) : fewV xs (q : Int) = leastP (ones n) n q ∧ fewOk xs (q : Int) = true := by
  subst hx
  have h2 := leastOk_at (ones_party h)
  rw [ones_len, hp] at h2
  have h3 := leastV_yes (ones_party h) (by rw [ones_len]; exact hp)
  rw [ones_len] at h3
  simp [fewV, fewOk, h, h2, h3]
theorem few_same {xs : List Int} {n q : Nat} (hx : xs.length = n) (h : isParty xs (q : Int) = true) : leastV (ones n) (q : Int) = fewV xs (q : Int) ∧ leastOk (ones n) (q : Int) = fewOk xs (q : Int) := by
  subst hx
  cases hk : leastOk (ones xs.length) (q : Int) <;> simp [fewV, fewOk, h, hk, leastV]
theorem size_partyF : (Try.prog.info? 28).map (·.size) = some 2 := by kernel_rfl
theorem repeat_any (n : Nat) (h1 : 1 ≤ n) (h8 : n ≤ 8) (B : Nat) (w : World) (hB : Whole w B 3 #[.int .i64 1]) :
    Calls Try.prog 82 #[.slice (some ⟨B, 0, none⟩) 1 1, .int .i64 (n : Int)] w fun e w' => e = .returned (.slice (some ⟨w.heap.size, 0, none⟩) n n) ∧ Whole w' w.heap.size 3 (nums (ones n)).toArray ∧ Below w.heap.size w w' := by
  rcases (show n = 1 ∨ n = 2 ∨ n = 3 ∨ n = 4 ∨ n = 5 ∨ n = 6 ∨ n = 7 ∨ n = 8 by omega) with rfl | rfl | rfl | rfl | rfl | rfl | rfl | rfl
  · exact repeat_1 B w hB
  · exact repeat_2 B w hB
  · exact repeat_3 B w hB
  · exact repeat_4 B w hB
  · exact repeat_5 B w hB
  · exact repeat_6 B w hB
  · exact repeat_7 B w hB
  · exact repeat_8 B w hB

set_option maxHeartbeats 6400000 in
set_option maxRecDepth 100000 in
set_option linter.unusedVariables false in
set_option linter.unusedSimpArgs false in
theorem specFew_any (A : Option Addr) (n c : Nat) (xs : List Int) (s : Int) (w : World) (hA0 : Holds w A (nums xs)) (hx : xs.length = n) (hn0 : n ≤ 9223372036854775807) :
    Calls Try.prog 33 #[.agg #[.slice A n c, .int .i64 s]] w fun e w' => e = .returned (.tuple #[.int .i64 (fewV xs s), .bool (fewOk xs s)]) ∧ Below w.heap.size w w' := by
  have hA := Lib.hid (hA0.alloc (.cells #[.slice A n c, .int .i64 s] 28))
  have hq := Whole.fresh w 28 #[.slice A n c, .int .i64 s]
  have HT := Lib.hid (below1 w (.cells #[.slice A n c, .int .i64 s] 28))
  have HX := Lib.hid hx
  cases hp : isParty xs s
  · have HV := Lib.hid (few_none hp)
    have HP := Lib.hid hp
    clear hp hx hA0 hq
    go_enter Try.func33, Try.ntmps33
    go_wp2_with fail
    refine (paGood_any A n c xs s _ hA.out HX.out hn0).mono ?_
    rintro e w1 ⟨rfl, hb⟩
    rw [HP.out]
    have HT1 := Lib.hid (below_then HT.out hb HT.out.size)
    clear hb
    go_wp2
    go_ret2
    exact ⟨by rw [HV.out.1, HV.out.2]; rfl, HT1.out⟩
  obtain ⟨q, rfl⟩ : ∃ q : Nat, s = (q : Int) := ⟨s.toNat, by simp only [isParty, Bool.and_eq_true, within_iff] at hp; omega⟩
  have hpo := ones_party hp
  rw [hx] at hpo
  obtain ⟨h1, hn8, -, hq8, gxs⟩ := party_parts hpo
  rw [ones_len] at h1 hn8
  have HXS := Lib.hid gxs
  have HON := Lib.hid (ones_len n)
  have HP := Lib.hid hp
  have HNO := Lib.hid (fun h => few_no hx hp h)
  have HYES := Lib.hid (fun h => few_yes hx hp h)
  have HLY := Lib.hid (fun h => leastP_yes (q := q) (ones_len n) (fun y hy => (gxs y hy).1) h)
  obtain ⟨i0, hi, hz0, hz1, hz2⟩ := info_parts info_int
  have HI := Lib.hid hi
  have HZ0 := Lib.hid hz0
  have HZ1 := Lib.hid hz1
  have HZ2 := Lib.hid hz2
  clear hp hx hA0 hpo gxs hi hz0 hz1 hz2
  go_enter Try.func33, Try.ntmps33
  go_wp2_with fail
  refine (paGood_any A n c xs (q : Int) _ hA.out HX.out hn0).mono ?_
  rintro e w1 ⟨rfl, hb⟩
  rw [HP.out]
  have HT1 := Lib.hid (below_then HT.out hb HT.out.size)
  replace hq := hq.below hb
  have hlw : w.heap.size < w1.heap.size := hq.lt
  obtain ⟨k0, k1⟩ := hq.cells2
  have HQ1 := Lib.hid hq
  clear hb hq
  go_wp2_with (refine wpList_store_whole rfl 28 (.tmp 4) (.tmp 11) rfl w1.heap.size #[.slice none 0 0, .int .i64 (q : Int)] rfl rfl 28 _ (Whole.fresh _ _ _) size_partyF rfl (by simp [Value.oneCell']) ?_; intro W2 hw2 ho2; obtain ⟨m0, m1⟩ := ((ho2.whole (HQ1.out.alloc _) (Nat.ne_of_lt hlw)).cells2); have hm2 := (ho2.whole (HQ1.out.alloc _) (Nat.ne_of_lt hlw)).lt)
  have HB2 := Lib.hid (ho2.below (below1 w1 _) (Nat.le_refl _))
  have HW2 := Lib.hid hw2
  clear hw2 ho2 m0 m1 hm2 k0 k1
  go_loopw [15] (fun i wr => ∃ (j : Nat) (Q : Option Addr) (r : Nat), j ≤ n ∧ i = .int .i64 (j : Int) ∧ Whole wr w1.heap.size 28 #[.slice Q j r, .int .i64 (q : Int)] ∧ wr.ownsRow (w1.heap.size + 1) 3 1 (.slice Q j r) j (nums (ones j)) ∧ Below w1.heap.size w1 wr) (fun i _ => n - (intOf i).toNat)
  case atStart => exact ⟨0, none, 0, Nat.zero_le _, rfl, HW2.out, World.ownsRow_nil _ _ _ _, HB2.out⟩
  case round =>
    clear HW2 HB2 HQ1
    obtain ⟨j, Q, r, hj, rfl, hw, hown, hb⟩ := hrel
    obtain ⟨wz, rfl⟩ : ∃ X : World, X = wr := ⟨_, rfl⟩
    have HBZ := Lib.hid hb
    have HOWN := Lib.hid hown
    have HWZ := Lib.hid hw
    obtain ⟨d0, d1⟩ := hw.cells2
    have hdl := hw.lt
    clear hb hown hw
    by_cases hlt : j < n
    · have hd1 : decide ((j : Int) < (n : Int)) = true := by simp; omega
      have hne9 := cells_new wz 3 #[.int .i64 1]
      have HNEW := Lib.hid hne9
      have HW3 := Lib.hid (HWZ.out.alloc (.cells #[.int .i64 1] 3))
      have HB3 := Lib.hid (HBZ.out.alloc HBZ.out.size (.cells #[.int .i64 1] 3))
      have HO3 := Lib.hid (HOWN.out.alloc (.cells #[.int .i64 1] 3))
      have HMAX := Lib.hid (show j + 1 ≤ maxLen by unfold maxLen; omega)
      have HBYT := Lib.hid (show (j + 1) * 8 ≤ 140737488355328 by omega)
      have HBASE := Lib.hid (show w1.heap.size + 1 ≤ (wz.alloc (.cells #[.int .i64 1] 3)).heap.size by simp; omega)
      clear hne9
      go_wp2_with (at_builtin; refine wpList_append_own _ rfl (.tmp 18) (.tmp 19) 22 rfl (w1.heap.size + 1) 3 i0 (.int .i64 0) 1 8 Try.underlying22 HI.out HZ0.out HZ1.out HZ2.out rfl (by decide) (.slice Q j r) j (nums (ones j)) rfl HO3.out ⟨wz.heap.size, 0, none⟩ 1 1 [.int .i64 1] rfl rfl HNEW.out (by simp [Value.oneCell']) HMAX.out HBYT.out HBASE.out ?_; intro v' w5 hown5 hg5 _; obtain ⟨A5, q5, rfl⟩ := own_shapeP hown5; have hw5 := whole_apart HW3.out hg5 (fun e => absurd ((HO3.out.lt _ e.symm).1) (by omega)); obtain ⟨e0, e1⟩ := hw5.cells2; have hel := hw5.lt; have hop := hw5.open_ 0)
      have HB5 := Lib.hid (HB3.out.grown hg5 (by have := HBASE.out; omega) (fun y hy => Nat.le_of_lt ((HO3.out.lt y hy).1)))
      have HW6 : Hid (Whole (w5.setCell ⟨w1.heap.size, 0, none⟩ (.slice A5 (j + 1) q5)) w1.heap.size 28 #[.slice A5 (j + 1) q5, .int .i64 (q : Int)]) := hw5.set_ 0 _
      have HO6 := Lib.hid (ownsRow_setCell_below (a := ⟨w1.heap.size, 0, none⟩) (by rw [ones_next] at hown5; exact hown5) (Nat.lt_succ_self _) (.slice A5 (j + 1) q5))
      have HB6 := Lib.hid (below_set (o := 0) (u := .slice A5 (j + 1) q5) HB5.out (Nat.le_refl w1.heap.size))
      clear hown5 hg5 hw5 e0 e1 hop
      go_roundw
      case rel => exact ⟨j + 1, A5, q5, by omega, by go_num, HW6.out, HO6.out, HB6.out⟩
      case measure => simp [intOf]; omega
    · have hd1 : decide ((j : Int) < (n : Int)) = false := by simp; omega
      obtain rfl : j = n := by omega
      have HH := Lib.hid (Fresh.of_own' HOWN.out).holds
      have HTZ := Lib.hid (below_then HT1.out HBZ.out HT1.out.size)
      clear HOWN HWZ HBZ
      go_wp2_with fail
      refine (seLeast_any Q j r q (ones j) _ HH.out HON.out h1 hn8 hq8 HXS.out).mono ?_
      rintro e w3 ⟨rfl, hb⟩
      have HT3 := Lib.hid (below_then HTZ.out hb HTZ.out.size)
      clear hb d0 d1
      cases hpl : planOk (ones j) j q
      · have HV := Lib.hid (HNO.out hpl)
        rw [leastP_no hpl]
        clear hpl
        go_wp2
        go_ret2
        exact ⟨by rw [HV.out.1, HV.out.2]; rfl, HT3.out⟩
      · have HV := Lib.hid (HYES.out hpl)
        have hly := HLY.out hpl
        obtain ⟨v, hv⟩ : ∃ v, leastP (ones j) j q = v := ⟨_, rfl⟩
        rw [hv] at hly HV ⊢
        have hd2 : decide (v < 0) = false := by simp; omega
        clear hpl hv
        go_wp2
        go_ret2
        exact ⟨by rw [HV.out.1, HV.out.2]; rfl, HT3.out⟩

set_option maxHeartbeats 6400000 in
set_option maxRecDepth 100000 in
set_option linter.unusedVariables false in
set_option linter.unusedSimpArgs false in
theorem implFew_any (A : Option Addr) (n c : Nat) (xs : List Int) (s : Int) (w : World) (hA0 : Holds w A (nums xs)) (hx : xs.length = n) (hn0 : n ≤ 9223372036854775807) :
    Calls Try.prog 34 #[.agg #[.slice A n c, .int .i64 s]] w fun e w' => e = .returned (.tuple #[.int .i64 (fewV xs s), .bool (fewOk xs s)]) ∧ Below w.heap.size w w' := by
  have hA := Lib.hid (hA0.alloc (.cells #[.slice A n c, .int .i64 s] 28))
  have hq := Whole.fresh w 28 #[.slice A n c, .int .i64 s]
  have HT := Lib.hid (below1 w (.cells #[.slice A n c, .int .i64 s] 28))
  have HX := Lib.hid hx
  cases hp : isParty xs s
  · have HV := Lib.hid (few_none hp)
    have HP := Lib.hid hp
    clear hp hx hA0 hq
    go_enter Try.func34, Try.ntmps34
    go_wp2_with fail
    refine (isParty_any A n c xs s _ hA.out HX.out hn0).mono ?_
    rintro e w1 ⟨rfl, hb⟩
    rw [HP.out]
    have HT1 := Lib.hid (below_then HT.out hb HT.out.size)
    clear hb
    go_wp2
    go_ret2
    exact ⟨by rw [HV.out.1, HV.out.2]; rfl, HT1.out⟩
  obtain ⟨q, rfl⟩ : ∃ q : Nat, s = (q : Int) := ⟨s.toNat, by simp only [isParty, Bool.and_eq_true, within_iff] at hp; omega⟩
  have hpo := ones_party hp
  rw [hx] at hpo
  obtain ⟨h1, hn8, -, hq8, gxs⟩ := party_parts hpo
  rw [ones_len] at h1 hn8
  have HON := Lib.hid (ones_len n)
  have HP := Lib.hid hp
  have HV := Lib.hid (few_same hx hp)
  clear hp hx hA0 hpo gxs
  go_enter Try.func34, Try.ntmps34
  go_wp2_with fail
  refine (isParty_any A n c xs (q : Int) _ hA.out HX.out hn0).mono ?_
  rintro e w1 ⟨rfl, hb⟩
  rw [HP.out]
  have HT1 := Lib.hid (below_then HT.out hb HT.out.size)
  replace hq := hq.below hb
  clear hb
  go_wp2_with fail
  refine wp_region_held_drew (S := (Two w.heap.size (.slice A n c) (.int .i64 (q : Int)))) (by kernel_rfl) (two_of hq.drew) (fun hHeld => ?_)
  replace hq := hq.drew
  have ht := (Below.refl w1.heap.size w1).drew
  generalize World.drew w1 = wd at hq ht hHeld ⊢
  refine wpAnyH_take (i := 1) (v := ?_) rfl (by kernel_rfl) (by kernel_rfl) (by kernel_rfl) (fun _ _ _ h => h) (Or.inl ⟨rfl, ?_⟩) hHeld ?_
  rotate_left
  · intro w' hS; obtain ⟨s0, s1⟩ := hS; go_simp <;> with_reducible rfl
  simp only [Act.put, List.getElem_toArray, List.getElem_cons_succ, List.getElem_cons_zero, List.setIfInBounds_toArray, List.set_cons_succ, List.set_cons_zero]
  refine wpAnyH_take (i := 2) (v := ?_) rfl (by kernel_rfl) (by kernel_rfl) (by kernel_rfl) (fun _ _ _ h => h) (Or.inl ⟨rfl, ?_⟩) hHeld ?_
  rotate_left
  · intro w' hS; obtain ⟨s0, s1⟩ := hS; go_simp <;> with_reducible rfl
  simp only [Act.put, List.getElem_toArray, List.getElem_cons_succ, List.getElem_cons_zero, List.setIfInBounds_toArray, List.set_cons_succ, List.set_cons_zero]
  refine wpAnyH_take (i := 3) (v := ?_) rfl (by kernel_rfl) (by kernel_rfl) (by kernel_rfl) (fun _ _ _ h => h) (Or.inl ⟨rfl, ?_⟩) hHeld ?_
  rotate_left
  · intro w' hS; obtain ⟨s0, s1⟩ := hS; go_simp <;> with_reducible rfl
  simp only [Act.put, List.getElem_toArray, List.getElem_cons_succ, List.getElem_cons_zero, List.setIfInBounds_toArray, List.set_cons_succ, List.set_cons_zero]
  refine wpAnyH_take (i := 5) (v := ?_) rfl (by kernel_rfl) (by kernel_rfl) (by kernel_rfl) (fun _ _ _ h => h) (Or.inl ⟨rfl, ?_⟩) hHeld ?_
  rotate_left
  · intro w' hS; obtain ⟨s0, s1⟩ := hS; go_simp <;> with_reducible rfl
  simp only [Act.put, List.getElem_toArray, List.getElem_cons_succ, List.getElem_cons_zero, List.setIfInBounds_toArray, List.set_cons_succ, List.set_cons_zero]
  refine wpAnyH_take (i := 6) (v := ?_) rfl (by kernel_rfl) (by kernel_rfl) (by kernel_rfl) (fun _ _ _ h => h) (Or.inl ⟨rfl, ?_⟩) hHeld ?_
  rotate_left
  · intro w' hS; obtain ⟨s0, s1⟩ := hS; go_simp <;> with_reducible rfl
  simp only [Act.put, List.getElem_toArray, List.getElem_cons_succ, List.getElem_cons_zero, List.setIfInBounds_toArray, List.set_cons_succ, List.set_cons_zero]
  refine wpAnyH_ready (rs := [0]) (by kernel_rfl) (by simp) (AllReadyH.cons rfl (fun K hK => ?_) AllReadyH.nil)
  go_simp
  obtain ⟨g1, hg1⟩ : ∃ g, g = wd.heap.size := ⟨_, rfl⟩
  have hN := Whole.fresh wd 3 #[.int .i64 1]
  rw [← hg1] at hN ⊢
  replace hq := hq.alloc (.cells #[.int .i64 1] 3)
  replace ht := ht.alloc ht.size (.cells #[.int .i64 1] 3)
  clear hg1
  generalize World.alloc wd (.cells #[.int .i64 1] 3) = wda at hq hN ht ⊢
  refine hK.out _ _ (two_of hq) (fun hHeld => ?_)
  clear hK K
  try simp only [Act.put, List.getElem_toArray, List.getElem_cons_succ, List.getElem_cons_zero, List.setIfInBounds_toArray, List.set_cons_succ, List.set_cons_zero]
  refine wpAnyH_ready (rs := [4]) (by kernel_rfl) (by simp) (AllReadyH.cons rfl (fun K hK => ?_) AllReadyH.nil)
  go_simp
  refine (repeat_any n h1 hn8 g1 _ hN).mono ?_
  rintro e wdae ⟨rfl, hR, hb⟩
  obtain ⟨g2, hg2⟩ : ∃ g, g = wda.heap.size := ⟨_, rfl⟩
  rw [← hg2] at hR ⊢
  replace hq := hq.below hb
  replace ht := below_then ht hb ht.size
  clear hb hN hg2
  have HH : Holds wdae (some ⟨g2, 0, none⟩) (nums (ones n)) := (Fresh.of_whole (lo := 0) (hi := wdae.heap.size) hR (Nat.zero_le _) hR.lt).holds
  clear hR
  refine hK.out _ _ (two_of hq) (fun hHeld => ?_)
  clear hK K
  try simp only [Act.put, List.getElem_toArray, List.getElem_cons_succ, List.getElem_cons_zero, List.setIfInBounds_toArray, List.set_cons_succ, List.set_cons_zero]
  refine wpAnyH_take (i := 7) (v := ?_) rfl (by kernel_rfl) (by kernel_rfl) (by kernel_rfl) (fun _ _ _ h => h) (Or.inl ⟨rfl, ?_⟩) hHeld ?_
  rotate_left
  · intro w' hS; obtain ⟨s0, s1⟩ := hS; go_simp <;> with_reducible rfl
  simp only [Act.put, List.getElem_toArray, List.getElem_cons_succ, List.getElem_cons_zero, List.setIfInBounds_toArray, List.set_cons_succ, List.set_cons_zero]
  refine wpAnyH_ready (rs := [8]) (by kernel_rfl) (by simp) (AllReadyH.cons rfl (fun K hK => ?_) AllReadyH.nil)
  go_simp
  refine (implLeastTime_any (some ⟨g2, 0, none⟩) n n (ones n) (q : Int) _ HH HON.out (by omega)).mono ?_
  rintro e wdaei ⟨rfl, hb⟩
  rw [HV.out.1, HV.out.2]
  replace hq := hq.below hb
  replace ht := below_then ht hb ht.size
  clear hb HH
  refine hK.out _ _ (two_of hq) (fun hHeld => ?_)
  clear hK K
  try simp only [Act.put, List.getElem_toArray, List.getElem_cons_succ, List.getElem_cons_zero, List.setIfInBounds_toArray, List.set_cons_succ, List.set_cons_zero]
  refine wpAnyH_take (i := 9) (v := ?_) rfl (by kernel_rfl) (by kernel_rfl) (by kernel_rfl) (fun _ _ _ h => h) (Or.inl ⟨rfl, ?_⟩) hHeld ?_
  rotate_left
  · intro w' hS; obtain ⟨s0, s1⟩ := hS; go_simp <;> with_reducible rfl
  simp only [Act.put, List.getElem_toArray, List.getElem_cons_succ, List.getElem_cons_zero, List.setIfInBounds_toArray, List.set_cons_succ, List.set_cons_zero]
  refine wpAnyH_take (i := 10) (v := ?_) rfl (by kernel_rfl) (by kernel_rfl) (by kernel_rfl) (fun _ _ _ h => h) (Or.inl ⟨rfl, ?_⟩) hHeld ?_
  rotate_left
  · intro w' hS; obtain ⟨s0, s1⟩ := hS; go_simp <;> with_reducible rfl
  simp only [Act.put, List.getElem_toArray, List.getElem_cons_succ, List.getElem_cons_zero, List.setIfInBounds_toArray, List.set_cons_succ, List.set_cons_zero]
  refine wpAnyH_take (i := 11) (v := ?_) rfl (by kernel_rfl) (by kernel_rfl) (by kernel_rfl) (fun _ _ _ h => h) (Or.inl ⟨rfl, ?_⟩) hHeld ?_
  rotate_left
  · intro w' hS; obtain ⟨s0, s1⟩ := hS; go_simp <;> with_reducible rfl
  simp only [Act.put, List.getElem_toArray, List.getElem_cons_succ, List.getElem_cons_zero, List.setIfInBounds_toArray, List.set_cons_succ, List.set_cons_zero]
  refine wpAnyH_take (i := 12) (v := ?_) rfl (by kernel_rfl) (by kernel_rfl) (by kernel_rfl) (fun _ _ _ h => h) (Or.inl ⟨rfl, ?_⟩) hHeld ?_
  rotate_left
  · intro w' hS; obtain ⟨s0, s1⟩ := hS; go_simp <;> with_reducible rfl
  simp only [Act.put, List.getElem_toArray, List.getElem_cons_succ, List.getElem_cons_zero, List.setIfInBounds_toArray, List.set_cons_succ, List.set_cons_zero]
  refine wpAnyH_done (by kernel_rfl) ?_ _
  clear hHeld
  have HTT := Lib.hid (below_then HT1.out ht HT1.out.size)
  clear ht hq
  go_wp2
  go_ret2
  exact ⟨by rfl, HTT.out⟩
end Go.Proofs.Ytcikimjpjebflaa

namespace Go.Proofs.Ytcikimjpjebflaa
open Go.RowKit

set_option maxHeartbeats 800000 in
set_option linter.unusedVariables false in
theorem lawFewestTrips_big0 (A0 : Option Addr) (n0 c0 : Nat) (x0 : List Int) (k0 : Int) (w : World) (h0 : Holds w A0 (nums x0)) (hx0 : x0.length = n0) (hn0 : n0 ≤ 9223372036854775807)  (hbig : 1048576 - (n0 : Int) < 0) :
    Calls Try.prog 7 #[.agg #[.slice A0 n0 c0, .int .i64 k0]] w fun e w' => e = .returned (.bool true) ∧ Below w.heap.size w w' := by
  have hb0 := (Whole.fresh w 24 #[.slice A0 n0 c0, .int .i64 k0])
  have ht := below1 w (.cells #[.slice A0 n0 c0, .int .i64 k0] 24)
  have HX0 := Lib.hid hx0
  clear hx0
  obtain ⟨hb0_0, hb0_1⟩ := hb0.cells2
  have hb0_l := hb0.lt
  go_enter Try.func7, Try.ntmps7
  go_wp2_with fail
  refine (szParty_any A0 n0 c0 k0 (1048576) _ (by omega) (by omega) (by omega)).mono ?_
  rintro e v1 ⟨rfl, hb⟩
  rw [if_pos (by omega)]
  have hz1 : w.heap.size + 1 ≤ v1.heap.size := by have := hb.size; simpa using this
  replace ht := below_then ht hb ht.size
  replace hb0 := hb0.below hb
  clear hb
  clear hb0_0 hb0_1 hb0_l
  go_wp2
  go_ret
  exact ⟨rfl, ht⟩

set_option maxHeartbeats 12800000 in
set_option maxRecDepth 100000 in
set_option linter.unusedSimpArgs false in
set_option linter.unusedVariables false in
theorem lawFewestTrips_small (A0 : Option Addr) (n0 c0 : Nat) (x0 : List Int) (k0 : Int) (w : World) (h0 : Holds w A0 (nums x0)) (hx0 : x0.length = n0) (hn0 : n0 ≤ 9223372036854775807) (g0 : 0 ≤ 1048576 - (n0 : Int)) :
    Calls Try.prog 7 #[.agg #[.slice A0 n0 c0, .int .i64 k0]] w fun e w' => e = .returned (.bool true) ∧ Below w.heap.size w w' := by
  have hb0 := (Whole.fresh w 24 #[.slice A0 n0 c0, .int .i64 k0])
  have ht := below1 w (.cells #[.slice A0 n0 c0, .int .i64 k0] 24)
  have HX0 := Lib.hid hx0
  clear hx0
  obtain ⟨hb0_0, hb0_1⟩ := hb0.cells2
  have hb0_l := hb0.lt
  go_enter Try.func7, Try.ntmps7
  -- region 2
  go_wp2_with fail
  refine (szParty_any A0 n0 c0 k0 (1048576) _ (by omega) (by omega) (by omega)).mono ?_
  rintro e v1 ⟨rfl, hb⟩
  rw [if_neg (by omega)]
  have hz1 : w.heap.size + 1 ≤ v1.heap.size := by have := hb.size; simpa using this
  replace ht := below_then ht hb ht.size
  replace hb0 := hb0.below hb
  clear hb
  clear hb0_0 hb0_1 hb0_l
  obtain ⟨hb0_0, hb0_1⟩ := hb0.cells2
  have hb0_l := hb0.lt
  -- region 5
  go_wp2_with fail
  refine (toParty_own A0 n0 c0 x0 k0 _ (by exact h0.below ht) HX0.out (by omega)).mono ?_
  rintro e v2 ⟨gp0, rfl, hgp0, hwp0, hb⟩
  have hz2 : v1.heap.size ≤ v2.heap.size := by have := hb.size; simpa using this
  replace ht := below_then ht hb ht.size
  replace hb0 := hb0.below hb
  have hp0 := Fresh.of_whole (lo := v1.heap.size) (hi := v2.heap.size) hwp0 (by simpa using hgp0) hwp0.lt
  clear hgp0 hwp0
  clear hb
  clear hb0_0 hb0_1 hb0_l
  obtain ⟨hb0_0, hb0_1⟩ := hb0.cells2
  have hb0_l := hb0.lt
  go_wp2_with fail
  refine (specFew_any _ n0 _ x0 k0 _ (by exact hp0.holds) HX0.out (by omega)).mono ?_
  rintro e v3 ⟨rfl, hb⟩
  have hz3 : v2.heap.size ≤ v3.heap.size := by have := hb.size; simpa using this
  replace ht := below_then ht hb ht.size
  replace hb0 := hb0.below hb
  replace hp0 := hp0.below hb
  clear hb
  clear hp0
  clear hb0_0 hb0_1 hb0_l
  obtain ⟨hb0_0, hb0_1⟩ := hb0.cells2
  have hb0_l := hb0.lt
  -- region 6
  go_wp2_with fail
  refine (toParty_own A0 n0 c0 x0 k0 _ (by exact h0.below ht) HX0.out (by omega)).mono ?_
  rintro e v4 ⟨gx0, rfl, hgx0, hwx0, hb⟩
  have hz4 : v3.heap.size ≤ v4.heap.size := by have := hb.size; simpa using this
  replace ht := below_then ht hb ht.size
  replace hb0 := hb0.below hb
  have hx0 := Fresh.of_whole (lo := v3.heap.size) (hi := v4.heap.size) hwx0 (by simpa using hgx0) hwx0.lt
  clear hgx0 hwx0
  clear hb
  have hx90 := Whole.fresh v4 28 #[.slice (some ⟨gx0, 0, none⟩) n0 n0, .int .i64 k0]
  replace ht := ht.alloc ht.size (.cells #[.slice (some ⟨gx0, 0, none⟩) n0 n0, .int .i64 k0] 28)
  replace hb0 := hb0.alloc (.cells #[.slice (some ⟨gx0, 0, none⟩) n0 n0, .int .i64 k0] 28)
  replace hx0 := hx0.alloc (.cells #[.slice (some ⟨gx0, 0, none⟩) n0 n0, .int .i64 k0] 28)
  clear hb0_0 hb0_1 hb0_l
  obtain ⟨hb0_0, hb0_1⟩ := hb0.cells2
  have hb0_l := hb0.lt
  obtain ⟨hx90_0, hx90_1⟩ := hx90.cells2
  have hx90_l := hx90.lt
  -- region 7
  go_wp2_with fail
  refine (implFew_any _ n0 _ x0 k0 _ (by exact hx0.holds) HX0.out (by omega)).mono ?_
  rintro e v5 ⟨rfl, hb⟩
  have hz5 : v4.heap.size + 1 ≤ v5.heap.size := by have := hb.size; simpa using this
  replace ht := below_then ht hb ht.size
  replace hb0 := hb0.below hb
  replace hx0 := hx0.below hb
  replace hx90 := hx90.below hb
  clear hb
  clear hb0_0 hb0_1 hb0_l hx90_0 hx90_1 hx90_l
  obtain ⟨hb0_0, hb0_1⟩ := hb0.cells2
  have hb0_l := hb0.lt
  obtain ⟨hx90_0, hx90_1⟩ := hx90.cells2
  have hx90_l := hx90.lt
  -- region 10
  clear hb0_0 hb0_1 hb0_l hx90_0 hx90_1 hx90_l
  go_wp2_with fail
  refine wp_region_held_drew (S := (fun w' => w'.cell? ⟨w.heap.size, 0, none⟩ = some (.slice A0 n0 c0) ∧ w'.cell? ⟨w.heap.size, 1, none⟩ = some (.int .i64 k0) ∧ w'.cell? ⟨v4.heap.size, 0, none⟩ = some (.slice (some ⟨gx0, 0, none⟩) n0 n0) ∧ w'.cell? ⟨v4.heap.size, 1, none⟩ = some (.int .i64 k0))) (by kernel_rfl) ⟨hb0.drew.cell 0, hb0.drew.cell 1, hx90.drew.cell 0, hx90.drew.cell 1⟩ (fun hHeld => ?_)
  replace ht := ht.drew
  replace hb0 := hb0.drew
  replace hx0 := hx0.drew
  replace hx90 := hx90.drew
  refine wpAnyH_take (i := 0) (v := ?_) rfl (by kernel_rfl) (by kernel_rfl) (by kernel_rfl) (fun _ _ _ h => h) (Or.inl ⟨rfl, ?_⟩) hHeld ?_
  rotate_left
  · intro w' hS; obtain ⟨s0, s1, s2, s3⟩ := hS; go_simp <;> with_reducible rfl
  simp only [Act.put, List.getElem_toArray, List.getElem_cons_succ, List.getElem_cons_zero, List.setIfInBounds_toArray, List.set_cons_succ, List.set_cons_zero]
  refine wpAnyH_take (i := 1) (v := ?_) rfl (by kernel_rfl) (by kernel_rfl) (by kernel_rfl) (fun _ _ _ h => h) (Or.inl ⟨rfl, ?_⟩) hHeld ?_
  rotate_left
  · intro w' hS; obtain ⟨s0, s1, s2, s3⟩ := hS; go_simp <;> with_reducible rfl
  simp only [Act.put, List.getElem_toArray, List.getElem_cons_succ, List.getElem_cons_zero, List.setIfInBounds_toArray, List.set_cons_succ, List.set_cons_zero]
  refine wpAnyH_ready (rs := [2]) (by kernel_rfl) (by simp) (AllReadyH.cons rfl (fun K hK => ?_) AllReadyH.nil)
  go_simp
  refine (toParty_own A0 n0 c0 x0 k0 _ (by exact h0.below ht) HX0.out (by omega)).mono ?_
  rintro e v6 ⟨gy0, rfl, hgy0, hwy0, hb⟩
  have hz6 : v5.heap.size ≤ v6.heap.size := by have := hb.size; simpa using this
  replace ht := below_then ht hb ht.size
  replace hb0 := hb0.below hb
  replace hx0 := hx0.below hb
  replace hx90 := hx90.below hb
  have hy0 := Fresh.of_whole (lo := v5.heap.size) (hi := v6.heap.size) hwy0 (by simpa using hgy0) hwy0.lt
  clear hgy0 hwy0
  clear hb
  refine hK.out _ _ ⟨hb0.cell 0, hb0.cell 1, hx90.cell 0, hx90.cell 1⟩ (fun hHeld => ?_)
  clear hK K
  try simp only [Act.put, List.getElem_toArray, List.getElem_cons_succ, List.getElem_cons_zero, List.setIfInBounds_toArray, List.set_cons_succ, List.set_cons_zero]
  refine wpAnyH_ready (rs := [3]) (by kernel_rfl) (by simp) (AllReadyH.cons rfl (fun K hK => ?_) AllReadyH.nil)
  go_simp
  refine (eqParty_yes _ _ n0 _ _ x0 k0 _ (by exact hx0.holds) (by exact hy0.holds) HX0.out (by omega)).mono ?_
  rintro e v7 ⟨rfl, hb⟩
  have hz7 : v6.heap.size ≤ v7.heap.size := by have := hb.size; simpa using this
  replace ht := below_then ht hb ht.size
  replace hb0 := hb0.below hb
  replace hx0 := hx0.below hb
  replace hx90 := hx90.below hb
  replace hy0 := hy0.below hb
  clear hb
  clear hy0
  refine hK.out _ _ ⟨hb0.cell 0, hb0.cell 1, hx90.cell 0, hx90.cell 1⟩ (fun hHeld => ?_)
  clear hK K
  try simp only [Act.put, List.getElem_toArray, List.getElem_cons_succ, List.getElem_cons_zero, List.setIfInBounds_toArray, List.set_cons_succ, List.set_cons_zero]
  refine wpAnyH_take (i := 4) (v := ?_) rfl (by kernel_rfl) (by kernel_rfl) (by kernel_rfl) (fun _ _ _ h => h) (Or.inl ⟨rfl, ?_⟩) hHeld ?_
  rotate_left
  · intro w' hS; obtain ⟨s0, s1, s2, s3⟩ := hS; go_simp <;> with_reducible rfl
  simp only [Act.put, List.getElem_toArray, List.getElem_cons_succ, List.getElem_cons_zero, List.setIfInBounds_toArray, List.set_cons_succ, List.set_cons_zero]
  refine wpAnyH_done (by kernel_rfl) ?_ _
  clear hHeld
  obtain ⟨hb0_0, hb0_1⟩ := hb0.cells2
  have hb0_l := hb0.lt
  obtain ⟨hx90_0, hx90_1⟩ := hx90.cells2
  have hx90_l := hx90.lt
  go_wp2
  go_ret
  exact ⟨rfl, ht⟩

theorem lawFewestTrips_all (A0 : Option Addr) (n0 c0 : Nat) (x0 : List Int) (k0 : Int) (w : World) (h0 : Holds w A0 (nums x0)) (hx0 : x0.length = n0) (hn0 : n0 ≤ 9223372036854775807) :
    Calls Try.prog 7 #[.agg #[.slice A0 n0 c0, .int .i64 k0]] w fun e w' => e = .returned (.bool true) ∧ Below w.heap.size w w' := by
  rcases (inferInstance : Decidable (0 ≤ 1048576 - (n0 : Int))) with g0 | g0
  · exact lawFewestTrips_big0 A0 n0 c0 x0 k0 w h0 hx0 hn0  (by omega)
  exact lawFewestTrips_small A0 n0 c0 x0 k0 w h0 hx0 hn0 g0
end Go.Proofs.Ytcikimjpjebflaa

namespace Go.Proofs.Ytcikimjpjebflaa.fewestTrips
open Go.ChangeShapes Go.WideShapes Go.ChangeAt Go.RowKit Go.Joins

set_option maxRecDepth 100000 in
theorem lifted (os : Os) (started : os.Started) (H : Type) (enc : TypeId × Value → H) :
    ReturnsInHanded {} Try.checked os 7 .any (Rows.fnExactFewestTripsSpec.pre6 enc Try.prog Try.f7 Rows.fnExactFewestTripsRow.domain false) (Rows.fnExactFewestTripsSpec.post enc Try.prog Try.f7 false true false false) := by
  refine returnsInHanded_of_change (C := Try.checked) own started (by kernel_rfl) Try.func7
    (ChangeSpec.witness6 (enc := enc) (C := Try.checked) false ⟨#[], #[.agg #[.slice none 0 0, .int .i64 0]], []⟩ 8 (by kernel_rfl) (by kernel_rfl) (by kernel_rfl) (by kernel_rfl)) ?_
  intro W base args ds gs before hval0 hW hcnd _
  have hval : ∀ (j : Nat) t v, Try.f7.params[j]? = some t → args[j]? = some v → Value.okWide Try.prog W .any base t v := hval0
  have hW' := hW
  obtain ⟨p, q, hA0, hV, rfl, hfz, hnd⟩ := hW
  have hA : DataW.TrodAll enc Try.prog W 0 (fun _ => true) true Try.f7.params.toList args.toList ds p := hA0
  rw [Try.params7] at hA hval
  obtain ⟨v0, vs0, d0, ds0, p0, q0, hargs, rfl, rfl, h0, r0⟩ := trodAll_cons hA
  obtain ⟨rfl, rfl, rfl⟩ := trodAll_nil r0
  obtain rfl : args = #[v0] := by cases args; simp_all
  obtain ⟨rfl, rfl⟩ := trodVars_none hV
  have lt0 : ∀ x ∈ p0, x.block < W.heap.size := by obtain ⟨m, hm⟩ := h0; exact DataW.trod_lt m _ _ _ hm
  obtain ⟨A0, n0, c0, xs0, s0, hv0, hr0, hx0, hn0⟩ := open_party (hval 0 24 v0 rfl rfl) h0
  subst hv0
  clear hA0 hval0
  refine (lawFewestTrips_all A0 n0 c0 xs0 s0 W hr0 hx0 hn0).mono fun e W' ⟨he, bel⟩ => ?_
  subst he
  exact ⟨_, rfl, _, _, _, [], _, [], hW', trodAll_mk1 (shut_bool Try.underlying4 _), (trodAll_cons_mk (Below.trod laidOut (by kernel_rfl) (of_decide_eq_true (by kernel_rfl)) h0 bel lt0) trodAll_mk0), rfl, bel.frame _, fun h => by cases h⟩

set_option maxHeartbeats 8000000 in
theorem facts : joinedFacts Try.prog 7 Try.f7 Rows.fnExactFewestTripsSpec Rows.fnExactFewestTripsRow = true := by
  unfold joinedFacts
  rw [enter.laid, enter.rowed, enter.heard, enter.keys, enter.mayEnter, enter.liftsFinal, enter.make]
  simp only [Bool.and_eq_true]
  repeat' apply And.intro
  all_goals (first | exact True.intro | (as_aux_lemma => kernel_rfl))

theorem named_ : Try.prog.funcNamed Rows.fnExactFewestTripsRow.func = some 7 := by kernel_rfl
theorem instance_ : Try.f7.isInstance Try.prog Rows.fnExactFewestTripsRow.origin Rows.fnExactFewestTripsRow.targs := of_decide_eq_true (by kernel_rfl)
theorem wrapper_ : Try.f7.isWrapper Try.prog Rows.fnExactFewestTripsRow.wrapper Rows.fnExactFewestTripsRow.mainSum := by
  unfold Func.isWrapper; first | (rw [if_pos (by decide +kernel)]; kernel_rfl) | (rw [if_neg (by decide +kernel)]; exact ⟨rfl, rfl⟩)

theorem proved : Rows.FnExactFewestTripsSaid :=
  OpenClaim.holds_of_wide 7 Try.f7 rfl rfl rfl rfl rfl rfl rfl ⟨rfl, rfl, rfl, rfl, rfl⟩ rfl rfl rfl rfl rfl named_ Try.func7 facts
    instance_ wrapper_ (fun os started H enc _ => lifted os started H enc)
#print axioms proved
end Go.Proofs.Ytcikimjpjebflaa.fewestTrips
