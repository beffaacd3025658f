/-
  What is proved: contracts of the model's and the program's tests of a trip in a state. Conditions: the arguments are read as they lie; at most eight people.
-/
import Derived.Test.YtionmcgaicijkaaTripT
namespace Go.Proofs.Ytionmcgaicijkaa
open Go.RowKit

/-- All people of a list stand where t is. -/
def allAt (bs : List Bool) (t : Bool) (l : List Int) : Bool := l.all fun k => bs.getD k.toNat false == t
theorem allAt_no {bs : List Bool} {t : Bool} {l : List Int} {k : Nat} (hk : k < l.length) (h : bs.getD (l[k]).toNat false ≠ t) : allAt bs t l = false := by
  rw [allAt, List.all_eq_false]
  exact ⟨l[k], List.getElem_mem hk, by simpa using h⟩
theorem allAt_yes {bs : List Bool} {t : Bool} {l : List Int} (h : ∀ j (hj : j < l.length), bs.getD (l[j]).toNat false = t) : allAt bs t l = true := by
  rw [allAt, List.all_eq_true]
  intro x hx
  obtain ⟨j, hj, rfl⟩ := List.getElem_of_mem hx
  simpa using h j hj
/-- Can the people of a list cross? -/
noncomputable def canGo (n : Nat) (s : Int) (bs : List Bool) (t : Bool) (l : List Int) : Bool := isTrip n s l && allAt bs t l
def AtTo (bs : List Bool) (t : Bool) (l : List Int) (k : Nat) : Prop := ∀ j (h : j < l.length), j < k → bs.getD (l[j]).toNat false = t

set_option maxHeartbeats 800000 in
theorem paAsked_any (A B : Option Addr) (n c m d : Nat) (xs : List Int) (bs : List Bool) (s : Int) (t : Bool) (w : World) (hA : Holds w A (nums xs)) (hB : Holds w B (bits bs)) (hx : xs.length = n) (hy : bs.length = m) (hn : n ≤ 9223372036854775807) (hm : m ≤ 9223372036854775807) :
    Calls Try.prog 60 #[.agg #[.slice A n c, .int .i64 s], .agg #[.slice B m d, .bool t]] w fun e w' => e = .returned (.bool (isParty xs s && isState n bs t)) ∧ Below w.heap.size w w' := by
  have HX := Lib.hid hx
  have HY := Lib.hid hy
  clear hx hy
  have hA2 := (hA.alloc (.cells #[.slice A n c, .int .i64 s] 33)).alloc (.cells #[.slice B m d, .bool t] 30)
  have hB2 := (hB.alloc (.cells #[.slice A n c, .int .i64 s] 33)).alloc (.cells #[.slice B m d, .bool t] 30)
  have h0 := (Whole.fresh w 33 #[.slice A n c, .int .i64 s]).alloc (.cells #[.slice B m d, .bool t] 30)
  have h1 := Whole.fresh (w.alloc (.cells #[.slice A n c, .int .i64 s] 33)) 30 #[.slice B m d, .bool t]
  rw [World.size_alloc] at h1
  cases hp : isParty xs s
  all_goals
    have HP := Lib.hid hp
    clear hp
    go_enter Try.func60, Try.ntmps60
    go_wp2_with fail
    refine (paGood_any A n c xs s _ hA2 HX.out hn).mono ?_
    rintro e w1 ⟨rfl, hb1⟩
    rw [HP.out]
    obtain ⟨c0, c1, -, -⟩ := (h0.below hb1).two
    obtain ⟨d0, d1, -, -⟩ := (h1.below hb1).two
    have hB3 := hB2.below hb1
    have hb1' := below_then (below2 w _ _) hb1 (by simp; omega)
    clear h0 h1 hb1 hA2 hB2
  · go_wp2
    go_ret
    exact ⟨rfl, hb1'⟩
  · go_wp2_with fail
    refine (paState_any A B n c m d bs s t _ hB3 HY.out hm).mono ?_
    rintro e w2 ⟨rfl, hb2⟩
    go_wp2
    go_ret
    exact ⟨rfl, below_then hb1' hb2 hb1'.size⟩

set_option maxHeartbeats 800000 in
theorem paCan_any (A B D : Option Addr) (n c m d q z : Nat) (bs : List Bool) (l : List Int) (s : Int) (t : Bool) (w : World) (hB : Holds w B (bits bs)) (hD : Holds w D (nums l)) (hy : bs.length = m) (hz : l.length = q) (hst : m = n) (hn : n ≤ 9223372036854775807) (hq : q ≤ 9223372036854775807) :
    Calls Try.prog 61 #[.agg #[.slice A n c, .int .i64 s], .agg #[.slice B m d, .bool t], .slice D q z] w fun e w' => e = .returned (.bool (canGo n s bs t l)) ∧ Below w.heap.size w w' := by
  have HY := Lib.hid hy
  have HZ := Lib.hid hz
  have HS := Lib.hid hst
  clear hy hz hst
  have hB2 := (hB.alloc (.cells #[.slice A n c, .int .i64 s] 33)).alloc (.cells #[.slice B m d, .bool t] 30)
  have hD2 := (hD.alloc (.cells #[.slice A n c, .int .i64 s] 33)).alloc (.cells #[.slice B m d, .bool t] 30)
  have h1 := Whole.fresh (w.alloc (.cells #[.slice A n c, .int .i64 s] 33)) 30 #[.slice B m d, .bool t]
  rw [World.size_alloc] at h1
  cases ht : isTrip n s l
  · have HC : Hid (canGo n s bs t l = false) := by show _ = _; simp [canGo, ht]
    have HT := Lib.hid ht
    clear ht
    go_enter Try.func61, Try.ntmps61
    go_wp2_with fail
    refine (paTrip_any A D n c q z l s _ hD2 HZ.out hq hn).mono ?_
    rintro e w1 ⟨rfl, hb1⟩
    rw [HT.out]
    go_wp2
    go_ret
    exact ⟨ret_of (by rw [HC.out]; rfl), below_then (below2 w _ _) hb1 (by simp; omega)⟩
  · have HC : Hid (canGo n s bs t l = allAt bs t l) := by show _ = _; simp [canGo, ht]
    have HT := Lib.hid ht
    have hstep := trip_steps ht
    clear ht
    go_enter Try.func61, Try.ntmps61
    go_wp2_with fail
    refine (paTrip_any A D n c q z l s _ hD2 HZ.out hq hn).mono ?_
    rintro e w1 ⟨rfl, hb1⟩
    rw [HT.out]
    have hb1' := below_then (below2 w _ _) hb1 (by simp; omega)
    replace hB2 := hB2.below hb1
    replace hD2 := hD2.below hb1
    obtain ⟨d0, d1, -, -⟩ := (h1.below hb1).two
    clear hb1 h1
    go_wp2
    go_loopw [15] (fun i wr => ∃ k x : Nat, k ≤ q ∧ i = .int .i64 k ∧ wr = w1.drewN x ∧ AtTo bs t l k) (fun i _ => q - (intOf i).toNat)
    case atStart => exact ⟨0, 0, Nat.zero_le _, rfl, rfl, fun _ _ h => absurd h (by omega)⟩
    case round =>
      obtain ⟨k, x, hk, rfl, rfl, hat⟩ := hrel
      by_cases hlt : k < q
      · have hkl : k < l.length := by have := HZ.out; omega
        obtain ⟨b, o, rfl, hbl, hc⟩ := hD2.look (k := k) (by simpa [nums] using hkl)
        simp only [nums, List.getElem_map] at hc
        have hst := hstep k hkl
        have hlo := hst.1
        have hhi := hst.2.1
        rw [getD_at l hkl] at hlo hhi
        have hix : (l[k]).toNat < bs.length := by have := HY.out; have := HS.out; omega
        obtain ⟨b', o', rfl, hbl', hc'⟩ := hB2.look (k := (l[k]).toNat) (by simpa [bits] using hix)
        simp only [bits, List.getElem_map] at hc'
        have hup : l[k] < m := by have := HS.out; omega
        have hgd : bs.getD (l[k]).toNat false = bs[(l[k]).toNat] := by simp [hix]
        clear hst hhi
        by_cases he : bs[(l[k]).toNat] = t
        · have hne : (!(bs[(l[k]).toNat] == t)) = false := by simp [he]
          have HE := Lib.hid (hgd.trans he)
          clear he hgd
          go_wp2
          go_quiet (fail)
          go_wp2
          go_roundw
          case rel => exact ⟨k + 1, x + _, by omega, by go_num, rfl, fun j h hj => (Nat.lt_succ_iff_lt_or_eq.1 hj).elim (hat j h) (fun e => by subst e; exact HE.out)⟩
          case measure => simp [intOf]; omega
        · have hne : (!(bs[(l[k]).toNat] == t)) = true := by simp [he]
          have HN := Lib.hid (allAt_no (bs := bs) (t := t) hkl (by rw [hgd]; exact he))
          clear he hgd
          go_wp2
          go_quiet (fail)
          go_wp2
          go_ret
          exact ⟨ret_of (by rw [HC.out, HN.out]; rfl), below_draws (below_draws hb1' _) _⟩
      · have HN := Lib.hid (allAt_yes (bs := bs) (t := t) (l := l) (fun j hj => hat j hj (by have := HZ.out; omega)))
        go_wp2
        go_ret
        exact ⟨ret_of (by rw [HC.out, HN.out]; rfl), below_draws hb1' _⟩

end Go.Proofs.Ytionmcgaicijkaa
