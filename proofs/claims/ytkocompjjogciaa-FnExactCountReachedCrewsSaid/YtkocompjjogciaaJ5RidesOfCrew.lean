/-
  What is proved: contracts of the model's test of a plan. Conditions: the lists are read as they lie; one to eight people.
  What is proved: contracts of both IsCrewPlan. Conditions: the arguments are read as they lie.
  What is proved: a contract of the program's RideWithCrew. Conditions: the arguments are read as they lie.
  What is proved: a contract of the model's RowBoat. Conditions: the arguments are read as they lie.
  What is proved: a contract of the model's RowsOf. Conditions: the arguments are read as they lie.
  What is proved: a contract of the program's RowsOf. Conditions: the arguments are read as they lie.
  What is proved: a contract of the program's RidesOfCrew. Conditions: the arguments are read as they lie.
  What is proved: contracts of the model's rides in a state and of its RidesOfCrew. Conditions: the arguments are read as they lie.
  What is proved: the law FnExactRidesOfCrew returns true at every argument, and leaves all that was there as it was. Conditions: the arguments are read as they lie.
-/
import Derived.Deep.QuietTactic
import Derived.BigQuiet
import Derived.Deep.DeepCutAuto
import Derived.Deep.RegionHeld3
import Derived.Test.YtkocompjjogciaaJ4RidesOfCrew
set_option linter.unusedSimpArgs false
set_option linter.unusedVariables false
namespace Go.Proofs.Ytkocompjjogciaa
open Go.RowKit

set_option maxHeartbeats 800000 in
theorem paSame_any (A B : Option Addr) (m c d : Nat) (bs cs : List Bool) (t u : Bool) (w : World) (hA : Holds w A (bits bs)) (hB : Holds w B (bits cs)) (hx : bs.length = m) (hy : cs.length = m) (hm : m ≤ 9223372036854775807) :
    Calls Try.prog 103 #[.agg #[.slice A m c, .bool t], .agg #[.slice B m d, .bool u]] w fun e w' => e = .returned (.bool (sameBits bs cs && (t == u))) ∧ Below w.heap.size w w' := by
  subst hx
  have hA2 := (hA.alloc (.cells #[.slice A bs.length c, .bool t] 38)).alloc (.cells #[.slice B bs.length d, .bool u] 38)
  have hB2 := (hB.alloc (.cells #[.slice A bs.length c, .bool t] 38)).alloc (.cells #[.slice B bs.length d, .bool u] 38)
  have HB := Lib.hid (below2 w (.cells #[.slice A bs.length c, .bool t] 38) (.cells #[.slice B bs.length d, .bool u] 38))
  have HY := Lib.hid hy
  clear hy
  go_enter Try.func103, Try.ntmps103
  go_wp2
  go_loop [10] (fun i => ∃ k : Nat, k ≤ bs.length ∧ i = .int .i64 k ∧ bs.take k = cs.take k) (fun i => bs.length - (intOf i).toNat)
  case atStart => exact ⟨0, Nat.zero_le _, rfl, rfl⟩
  case round =>
    obtain ⟨k, hk, rfl, ht⟩ := hrel
    have HT := Lib.hid ht
    clear ht
    by_cases hlt : k < bs.length
    · have hlt' : k < cs.length := by have := HY.out; omega
      obtain ⟨b, o, rfl, hb, hc⟩ := hA2.look (k := k) (by simpa [bits] using hlt)
      obtain ⟨b', o', rfl, hb', hc'⟩ := hB2.look (k := k) (by simpa [bits] using hlt')
      simp only [bits, List.getElem_map] at hc hc'
      by_cases he : bs[k] = cs[k]
      · have hne : (!(bs[k] == cs[k])) = false := by simp [he]
        have HE := Lib.hid he
        clear he
        go_wp2
        go_round
        case rel => exact ⟨k + 1, by omega, by go_num, take_nextB hlt hlt' HT.out HE.out⟩
        case measure => simp [intOf]; omega
      · have hne : (!(bs[k] == cs[k])) = true := by simp [he]
        have HN := Lib.hid (sameBits_no (fun h : bs = cs => he (by subst h; rfl)))
        clear he
        go_wp2
        go_ret
        exact ⟨by rw [HN.out]; rfl, HB.out⟩
    · have h1 := HT.out
      rw [List.take_of_length_le (by omega), List.take_of_length_le (by have := HY.out; omega)] at h1
      have HN := Lib.hid (sameBits_yes h1)
      clear h1
      go_wp2
      go_ret
      exact ⟨by rw [HN.out]; rfl, HB.out⟩

/-- Do the trips bring everybody and the torch over? -/
noncomputable def allOver (n : Nat) (s : Int) (ls : List (List Int)) : Bool := sameBits (ended n s (falses n) false ls).1 (trues n) && (ended n s (falses n) false ls).2
noncomputable def isPlan (n : Nat) (s : Int) (ls : List (List Int)) : Bool := decide (ls.length ≤ 40) && (decide (made n s (falses n) false ls = ls.length) && allOver n s ls)

theorem Whole.spots {w : World} {g : Nat} {t : TypeId} {xs : List Value} (h : Whole w g t xs.toArray) : ∀ j u, xs[j]? = some u → w.cell? ⟨g, 0 + j, none⟩ = some u := fun j u hu => by
  rw [Nat.zero_add, h.cell j]
  simpa using hu
/-- Behind the trips: the state lies in block g. -/
def EndMid (n : Nat) (s : Int) (ls : List (List Int)) (W : World) (v u : Value) (wx : World) : Prop :=
  ∃ (g : Nat) (A : Option Addr) (q : Nat), v = .pointer (some ⟨g, 0, none⟩) ∧ u = .int .i64 (made n s (falses n) false ls) ∧ Whole wx g 38 #[.slice A n q, .bool (ended n s (falses n) false ls).2] ∧ Holds wx A (bits (ended n s (falses n) false ls).1) ∧ Below W.heap.size W wx
theorem EndMid.last {n : Nat} {s : Int} {ls : List (List Int)} {W w : World} {A : Option Addr} {q : Nat} (hc : Below W.heap.size W w) (hA : Holds w A (bits (ended n s (falses n) false ls).1)) :
    EndMid n s ls W (.pointer (some ⟨w.heap.size, 0, none⟩)) (.int .i64 (made n s (falses n) false ls)) (w.alloc (.cells #[.slice A n q, .bool (ended n s (falses n) false ls).2] 38)) :=
  ⟨_, A, q, rfl, rfl, Whole.fresh _ _ _, hA.alloc _, hc.alloc hc.size _⟩
theorem EndMid.first {n : Nat} {s : Int} {ls : List (List Int)} {W w : World} {A : Option Addr} {q g b0 B : Nat} {a b : Value} (hc : Below W.heap.size W w) (hA : OldOrNew B b0 w A (bits (ended n s (falses n) false ls).1)) (hg : g < B) (hg0 : g ≠ b0) (hgW : W.heap.size ≤ g) (hw : Whole w g 38 #[a, b]) :
    EndMid n s ls W (.pointer (some ⟨g, 0, none⟩)) (.int .i64 (made n s (falses n) false ls)) ((w.setCell ⟨g, 0, none⟩ (.slice A n q)).setCell ⟨g, 1, none⟩ (.bool (ended n s (falses n) false ls).2)) :=
  ⟨g, A, q, rfl, rfl, (hw.set_ 0 _).set_ 1 _, ((hA.set hg hg0 _).set hg hg0 _).holds, below_set (below_set hc hgW) hgW⟩

end Go.Proofs.Ytkocompjjogciaa

namespace Go.Proofs.Ytkocompjjogciaa
open Go.RowKit

theorem Fresh.set_ne {w : World} {lo hi b o : Nat} {ty t : TypeId} {A : Option Addr} {xs : List Value} {u : Value} {cs : Array Value} (hf : Fresh w lo hi ty A xs) (hb : Whole w b t cs) (hn : t ≠ ty) : Fresh (w.setCell ⟨b, o, none⟩ u) lo hi ty A xs := by
  rcases hf with rfl | ⟨g, cs', hA, h1, h2, hw, h3, h4⟩
  · exact .inl rfl
  · exact .inr ⟨g, cs', hA, h1, h2, hw.off (whole_ne hw hb (fun e => hn e.symm)), h3, h4⟩
theorem Fresh.spots {w : World} {lo hi : Nat} {ty : TypeId} {A : Option Addr} {xs : List Value} (hf : Fresh w lo hi ty A xs) (h0 : 0 < xs.length) : ∃ g, A = some ⟨g, 0, none⟩ ∧ ∀ j u, xs[j]? = some u → w.cell? ⟨g, 0 + j, none⟩ = some u := by
  have hh := hf.holds
  rcases hf with rfl | ⟨g, cs', rfl, h1, h2, hw, h3, h4⟩
  · simp at h0
  · refine ⟨g, rfl, fun j u hu => ?_⟩
    rcases hh with h | ⟨b, o, hA, hb, hc⟩
    · rw [h] at h0; simp at h0
    · obtain ⟨rfl, rfl⟩ : g = b ∧ 0 = o := by simpa using hA
      exact hc j u hu
def wpOk (xs : List Int) (m : Nat) (s : Int) (ls : List (List Int)) : Bool := isCrew xs m s && decide (ls.length ≤ 40)
def isWP (xs : List Int) (bs : List Bool) (m : Nat) (s : Int) (ls : List (List Int)) : Bool := wpOk xs m s ls && playW xs.length (crewLists xs bs s) (falses xs.length) false ls
theorem wp_no {xs : List Int} {bs : List Bool} {m : Nat} {s : Int} {ls : List (List Int)} (h : isCrew xs m s = false ∨ 40 < ls.length) : wpOk xs m s ls = false ∧ isWP xs bs m s ls = false := by
  have h0 : wpOk xs m s ls = false := by
    rcases h with h | h
    · simp [wpOk, h]
    · simp [wpOk]; omega
  exact ⟨h0, by simp [isWP, h0]⟩
theorem wp_yes {xs : List Int} {bs : List Bool} {m : Nat} {s : Int} {ls : List (List Int)} (h : isCrew xs m s = true) (h40 : ls.length ≤ 40) : wpOk xs m s ls = true ∧ isWP xs bs m s ls = playW xs.length (crewLists xs bs s) (falses xs.length) false ls := by
  have h0 : wpOk xs m s ls = true := by simp [wpOk, h, h40]
  exact ⟨h0, by simp [isWP, h0]⟩
theorem crew_small {xs : List Int} (bs : List Bool) (s : Int) (h : xs.length ≤ 7) : (crewLists xs bs s).length ≤ 255 := Nat.le_trans (legs_len _ _ _ _) (upLists_small (by omega))
theorem crew_up {xs : List Int} {bs : List Bool} {s : Int} {l : List Int} (h : l ∈ crewLists xs bs s) : l ∈ upLists xs.length xs.length := (List.mem_filter.1 h).1
theorem ride_in {xs : List Int} {bs : List Bool} {s : Int} {sb : List Bool} {t : Bool} {l : List Int} : canRide xs bs s sb t l = true ↔ l ∈ ridesAt sb t (crewLists xs bs s) := ride_mem

set_option maxHeartbeats 3200000 in
set_option maxRecDepth 100000 in
set_option linter.unusedVariables false in
theorem implIsCrewPlan_any (A : Option Addr) (n : Nat) (B : Option Addr) (m d : Nat) (xs : List Int) (bs : List Bool) (s : Int) (D : Option Addr) (r z : Nat) (rs : List RowV) (w : World) (hA : Holds w A (nums xs)) (hB : Holds w B (bits bs)) (hD : Grid w D rs) (hx : xs.length = n) (hy : bs.length = m) (hz : rs.length = r) (hn : n ≤ 9223372036854775807) (hr : r ≤ 9223372036854775807) :
    Calls Try.prog 48 #[.agg #[.slice A n n, .slice B m d, .int .i64 s], .slice D r z] w (TwoTold (isWP xs bs m s (rowNums rs)) (wpOk xs m s (rowNums rs)) w) := by
  have HX := Lib.hid hx
  have HY := Lib.hid hy
  have HZ := Lib.hid hz
  have HLS := Lib.hid (rowNums_len rs)
  have h0 := Whole.fresh w 40 #[.slice A n n, .slice B m d, .int .i64 s]
  have hbw := below1 w (.cells #[.slice A n n, .slice B m d, .int .i64 s] 40)
  clear hz
  cases hp : isCrew xs m s
  · have HP := Lib.hid hp
    have HF := Lib.hid (wp_no (bs := bs) (ls := rowNums rs) (.inl hp))
    clear hp hx hy
    go_enter Try.func48, Try.ntmps48
    go_wp2_with fail
    refine (isCrew_any A n n B m d xs s _ (by exact hA.below hbw) HX.out hn).mono ?_
    rintro e w1 ⟨rfl, hb⟩
    rw [HP.out]
    have ht := below_then hbw hb (by simp)
    clear hb
    go_wp2
    go_ret2
    exact ⟨by rw [HF.out.1, HF.out.2]; rfl, ht⟩
  have HP := Lib.hid hp
  have hok := isCrew_ok hp
  by_cases h40 : 40 < r
  · have hd : decide ((r : Int) > 40) = true := by simp; omega
    have HF := Lib.hid (wp_no (xs := xs) (bs := bs) (m := m) (s := s) (ls := rowNums rs) (.inr (by have := HLS.out; have := HZ.out; omega)))
    clear hp hx hy hok
    go_enter Try.func48, Try.ntmps48
    go_wp2_with fail
    refine (isCrew_any A n n B m d xs s _ (by exact hA.below hbw) HX.out hn).mono ?_
    rintro e w1 ⟨rfl, hb⟩
    rw [HP.out]
    have ht := below_then hbw hb (by simp)
    clear hb
    go_wp2
    go_ret2
    exact ⟨by rw [HF.out.1, HF.out.2]; rfl, ht⟩
  have hd : decide ((r : Int) > 40) = false := by simp; omega
  have HF := Lib.hid (wp_yes (bs := bs) (ls := rowNums rs) hp (by have := HLS.out; have := HZ.out; omega))
  have hn7 : n ≤ 7 := by have := hok.seven; omega
  have hn1 : 1 ≤ n := by have := hok.one; omega
  have hm8 : m ≤ 8 := by have := hok.rows; omega
  have HW := Lib.hid hok.weights
  have HSM := Lib.hid (crew_small (xs := xs) bs s (by omega))
  have HUP : Hid (∀ l ∈ crewLists xs bs s, l ∈ upLists n n) := fun l hl => by have := crew_up hl; rw [hx] at this; exact this
  clear hp hx hy hok
  go_enter Try.func48, Try.ntmps48
  go_wp2_with fail
  refine (isCrew_any A n n B m d xs s _ (by exact hA.below hbw) HX.out hn).mono ?_
  rintro e w0 ⟨rfl, hb⟩
  rw [HP.out]
  have ht := below_then hbw hb (by simp)
  obtain ⟨c0, c1, c2⟩ := (h0.below hb).cells3
  clear hb h0 hbw
  go_wp2_with fail
  refine (crewRiver_any A n B m d xs bs s _ (by exact hA.below ht) (by exact hB.below ht) HX.out HY.out hn1 hn7 hm8 HW.out).mono ?_
  rintro e w1 ⟨gL, g, E, c, rfl, hRF, hb⟩
  have HT := Lib.hid (below_then ht hb ht.size)
  have HRF := Lib.hid hRF
  clear ht hb hRF c0 c1 c2
  go_wp2_with fail
  refine (leadsCrew_any (loadOf xs) n gL g E c (crewLists xs bs s) D r z rs w1 (by omega) HSM.out HUP.out HRF.out (by exact hD.below HT.out) HZ.out hr (by omega)).mono ?_
  rintro e w2 ⟨rfl, hb⟩
  go_wp2
  go_ret2
  exact ⟨by rw [HF.out.1, HF.out.2, HX.out]; rfl, below_then HT.out hb HT.out.size⟩

set_option maxHeartbeats 6400000 in
set_option maxRecDepth 100000 in
set_option linter.unusedVariables false in
set_option linter.unusedSimpArgs false in
theorem specIsCrewPlan_any (A : Option Addr) (n c : Nat) (B : Option Addr) (m d : Nat) (xs : List Int) (bs : List Bool) (s : Int) (D : Option Addr) (r z : Nat) (rs : List RowV) (w : World) (hA : Holds w A (nums xs)) (hB : Holds w B (bits bs)) (hD : Grid w D rs) (hx : xs.length = n) (hy : bs.length = m) (hz : rs.length = r) (hn : n ≤ 9223372036854775807) (hr : r ≤ 9223372036854775807) :
    Calls Try.prog 46 #[.agg #[.slice A n c, .slice B m d, .int .i64 s], .slice D r z] w (TwoTold (isWP xs bs m s (rowNums rs)) (wpOk xs m s (rowNums rs)) w) := by
  have HX := Lib.hid hx
  have HY := Lib.hid hy
  have HZ := Lib.hid hz
  have HLS := Lib.hid (rowNums_len rs)
  have h0 := Whole.fresh w 40 #[.slice A n c, .slice B m d, .int .i64 s]
  have hbw := below1 w (.cells #[.slice A n c, .slice B m d, .int .i64 s] 40)
  clear hz
  cases hp : isCrew xs m s
  · have HP := Lib.hid hp
    have HF := Lib.hid (wp_no (bs := bs) (ls := rowNums rs) (.inl hp))
    clear hp hx hy
    go_enter Try.func46, Try.ntmps46
    go_wp2_with fail
    refine (loGood_any A n c B m d xs s _ (by exact hA.below hbw) HX.out hn).mono ?_
    rintro e w1 ⟨rfl, hb⟩
    rw [HP.out]
    have ht := below_then hbw hb (by simp)
    clear hb
    go_wp2
    go_ret2
    exact ⟨by rw [HF.out.1, HF.out.2]; rfl, ht⟩
  have HP := Lib.hid hp
  have hok := isCrew_ok hp
  by_cases h40 : 40 < r
  · have hd : decide ((r : Int) > 40) = true := by simp; omega
    have HF := Lib.hid (wp_no (xs := xs) (bs := bs) (m := m) (s := s) (ls := rowNums rs) (.inr (by have := HLS.out; have := HZ.out; omega)))
    clear hp hx hy hok
    go_enter Try.func46, Try.ntmps46
    go_wp2_with fail
    refine (loGood_any A n c B m d xs s _ (by exact hA.below hbw) HX.out hn).mono ?_
    rintro e w1 ⟨rfl, hb⟩
    rw [HP.out]
    have ht := below_then hbw hb (by simp)
    clear hb
    go_wp2
    go_ret2
    exact ⟨by rw [HF.out.1, HF.out.2]; rfl, ht⟩
  have hd : decide ((r : Int) > 40) = false := by simp; omega
  obtain ⟨Q, hQ⟩ : ∃ Q : Bool, Q = playW n (crewLists xs bs s) (falses n) false (rowNums rs) := ⟨_, rfl⟩
  have HF : Hid (wpOk xs m s (rowNums rs) = true ∧ isWP xs bs m s (rowNums rs) = Q) := by
    have h := wp_yes (bs := bs) (ls := rowNums rs) hp (by have := HLS.out; have := HZ.out; omega)
    exact ⟨h.1, by rw [h.2, hQ, hx]⟩
  have HQ := Lib.hid hQ
  have hn7 : n ≤ 7 := by have := hok.seven; omega
  have hn1 : 1 ≤ n := by have := hok.one; omega
  have hm8 : m ≤ 8 := by have := hok.rows; omega
  have HOK := Lib.hid hok
  clear hp hx hy hok hQ
  go_enter Try.func46, Try.ntmps46
  go_wp2_with fail
  refine (loGood_any A n c B m d xs s _ (by exact hA.below hbw) HX.out hn).mono ?_
  rintro e w0 ⟨rfl, hb⟩
  rw [HP.out]
  have ht := below_then hbw hb (by simp)
  have hcr := h0.below hb
  obtain ⟨c0, c1, c2⟩ := hcr.cells3
  clear hb h0 hbw
  go_wp2_with fail
  refine (loParty_any A n c B m d s _).mono ?_
  rintro e w1 ⟨rfl, hb⟩
  replace hcr := hcr.below hb
  replace ht := below_then ht hb ht.size
  clear hb c0 c1 c2
  go_wp2_with fail
  refine (paFirst_any A n c 0 _ (by omega)).mono ?_
  rintro e w2 ⟨rfl, hw2, hb⟩
  have hF0 : Fresh w2 w.heap.size w2.heap.size 4 (some ⟨w1.heap.size + 1 + 1, 0, none⟩) (bits (falses n)) := Fresh.of_whole hw2 (by have := ht.size; omega) hw2.lt
  replace hcr := hcr.below hb
  replace ht := below_then ht hb ht.size
  generalize (some ⟨w1.heap.size + 1 + 1, 0, none⟩ : Option Addr) = F0 at hF0 ⊢
  clear hb hw2
  have HS0 := Lib.hid (Whole.fresh w2 38 #[.slice F0 n n, .bool false])
  have HC0 := Lib.hid (hcr.alloc (.cells #[.slice F0 n n, .bool false] 38))
  have HF0 := Lib.hid (fresh_up (hF0.alloc (.cells #[.slice F0 n n, .bool false] 38)) (by simp))
  have HT0 := Lib.hid (ht.alloc ht.size (.cells #[.slice F0 n n, .bool false] 38))
  have hgz := ht.size
  clear hcr hF0 ht
  obtain ⟨g, hg⟩ : ∃ g, g = w2.heap.size := ⟨_, rfl⟩
  have HG := Lib.hid hg
  go_wp2_with fail
  go_loopw [22] (fun i wr => ∃ (j : Nat) (sb : List Bool) (t : Bool) (F : Option Addr) (q2 : Nat), j ≤ r ∧ i = .int .i64 j ∧ sb.length = n ∧ Q = playW n (crewLists xs bs s) sb t ((rowNums rs).drop j) ∧ Whole wr w.heap.size 40 #[.slice A n c, .slice B m d, .int .i64 s] ∧ Whole wr w2.heap.size 38 #[.slice F n q2, .bool t] ∧ Fresh wr w.heap.size wr.heap.size 4 F (bits sb) ∧ Below w.heap.size w wr) (fun i _ => r - (intOf i).toNat)
  case atStart => exact ⟨0, falses n, false, F0, n, Nat.zero_le _, rfl, falses_len n, HQ.out, HC0.out, HS0.out, HF0.out, HT0.out⟩
  case round =>
    clear HC0 HS0 HF0 HT0
    obtain ⟨j, sb, t, F, q2, hj, rfl, hsb, hpl, hcr, hst, hF, ht⟩ := hrel
    have HSB := Lib.hid hsb
    have HPL := Lib.hid hpl
    clear hsb hpl
    obtain ⟨c0, c1, c2⟩ := hcr.cells3
    obtain ⟨d0, d1, -, -⟩ := hst.two
    by_cases hlt : j < r
    · have hlt' : j < rs.length := by have := HZ.out; omega
      have hlj : j < (rowNums rs).length := by rw [HLS.out]; exact hlt'
      have hDr := hD.below ht
      obtain ⟨b, o, rfl, hbl, hcell, hrow, hrl, hrn⟩ := hDr.look hlt'
      have HGT : Hid ((rowNums rs)[j] = rs[j].xs) := by show _ = _; simp [rowNums]
      have HRW := Lib.hid hrow
      have HRL := Lib.hid hrl
      clear hDr hrow hrl
      go_wp2_with fail
      refine (loCan_any A n c B m d xs bs s F n q2 sb t _ _ _ rs[j].xs _ (by exact hA.below ht) (by exact hB.below ht) (by exact hF.holds) HRW.out HX.out HY.out HSB.out HRL.out hrn HOK.out (by rw [HSB.out, HX.out])).mono ?_
      rintro e w4 ⟨rfl, hb⟩
      replace hcr := hcr.below hb
      replace hst := hst.below hb
      replace hF := hF.below hb
      replace ht := below_then ht hb ht.size
      have hRW := HRW.out.below hb
      have hzz := hb.size
      clear hb c0 c1 c2 d0 d1 hcell
      cases hc : canRide xs bs s sb t rs[j].xs
      · have HST : Hid (Q = false) := by show _ = _; rw [HPL.out]; exact playW_stop hlj (by rw [HGT.out, ← ride_in, hc]; simp)
        clear hc
        go_wp2
        go_ret2
        exact ⟨by rw [HF.out.1, HF.out.2, HST.out]; rfl, ht⟩
      · have HNX : Hid (Q = playW n (crewLists xs bs s) (flipped sb rs[j].xs) (!t) ((rowNums rs).drop (j + 1))) := by
          show _ = _
          rw [HPL.out, playW_next hlj (by rw [HGT.out]; exact ride_in.1 hc), HGT.out]
        have hri : rising rs[j].xs ((xs.length : Int) - 1) = true := by
          simp only [canRide, Bool.and_eq_true] at hc; exact hc.2.1
        have HSTP : Hid (StepsTo rs[j].xs ((n : Int) - 1) rs[j].xs.length) := by have h := rising_steps hri; rw [HX.out] at h; exact h
        obtain ⟨fb, rfl, hspots⟩ := hF.spots (by rw [bits_len, HSB.out]; omega)
        obtain ⟨d0, d1, -, -⟩ := hst.two
        have hstl := hst.lt
        clear hc hri
        go_wp2_with fail
        refine (paCross_any fb 0 n q2 _ _ _ sb rs[j].xs t w4 hspots HSB.out (by omega) (by omega) hRW HRL.out hrn HSTP.out).mono ?_
        rintro e w5 ⟨F5, q5, rfl, hF5, hb⟩
        rw [flipped_len, HSB.out]
        replace hcr := hcr.below hb
        replace hst := hst.below hb
        have hsz := ht.size
        replace ht := below_then ht hb ht.size
        have hF6 : Fresh w5 w.heap.size w5.heap.size 4 F5 (bits (flipped sb rs[j].xs)) := hF5.more hsz (Nat.le_refl _)
        have f0 := hst.open_ 0
        have f1 := hst.open_ 1
        clear hb d0 d1 hF hspots hF5 hRW
        obtain ⟨d0, d1, -, -⟩ := hst.two
        have hcr2 := (hcr.off (b := w2.heap.size) (o := 0) (u := .slice F5 n q5) (whole_ne hcr hst (by decide))).off (b := w2.heap.size) (o := 1) (u := .bool (!t)) (by have := whole_ne hcr hst (by decide); exact this)
        have hst1 := hst.set_ 0 (.slice F5 n q5)
        have hF7 := (hF6.set_ne (o := 0) (u := .slice F5 n q5) hst (by decide)).set_ne (o := 1) (u := .bool (!t)) hst1 (by decide)
        have hst2 : Whole ((w5.setCell ⟨w2.heap.size, 0, none⟩ (.slice F5 n q5)).setCell ⟨w2.heap.size, 1, none⟩ (.bool (!t))) w2.heap.size 38 #[.slice F5 n q5, .bool (!t)] := by simpa using hst1.set_ 1 (.bool (!t))
        have ht2 := below_set (b := w2.heap.size) (o := 1) (u := .bool (!t)) (below_set (b := w2.heap.size) (o := 0) (u := .slice F5 n q5) ht (by omega)) (by omega)
        have HCR := Lib.hid hcr2
        have HST := Lib.hid hst2
        have HFF := Lib.hid hF7
        have HTT := Lib.hid ht2
        clear hcr hst hF6 ht hcr2 hst1 hst2 hF7 ht2
        go_wp2
        go_roundw
        case measure => simp [intOf]; omega
        case rel => exact ⟨j + 1, flipped sb rs[j].xs, !t, F5, q5, by omega, by go_num, by rw [flipped_len]; exact HSB.out, HNX.out, HCR.out, HST.out, by simpa [World.setCell] using HFF.out, HTT.out⟩
    · have hje : j = r := by omega
      have HEN : Hid (Q = (sameBits sb (trues n) && t)) := by
        show _ = _
        rw [HPL.out, List.drop_eq_nil_of_le (by rw [HLS.out]; have := HZ.out; omega), playW]
      clear c0 c1 c2 d0 d1
      go_wp2_with fail
      refine wp_region_held_drew (S := (fun w' => Box3 w.heap.size (.slice A n c) (.slice B m d) (.int .i64 s) w' ∧ Box1 w2.heap.size (.slice F n q2) (.bool t) w')) (by kernel_rfl) ⟨box3_of hcr.drew, box1_of hst.drew⟩ (fun hHeld => ?_)
      replace hcr := hcr.drew
      replace hst := hst.drew
      replace hF := hF.drew
      replace ht := ht.drew
      generalize World.drew wr = wd at hcr hst hF ht hHeld ⊢
      refine wpAnyH_take (i := 0) (v := ?_) rfl (by kernel_rfl) (by kernel_rfl) (by kernel_rfl) (fun _ _ _ h => h) (Or.inl ⟨rfl, ?_⟩) hHeld ?_
      rotate_left
      · intro w' hS; obtain ⟨⟨a0, a1, a2⟩, b0, b1⟩ := hS; go_simp <;> with_reducible rfl
      simp only [Act.put, List.getElem_toArray, List.getElem_cons_succ, List.getElem_cons_zero, List.setIfInBounds_toArray, List.set_cons_succ, List.set_cons_zero]
      refine wpAnyH_take (i := 1) (v := ?_) rfl (by kernel_rfl) (by kernel_rfl) (by kernel_rfl) (fun _ _ _ h => h) (Or.inl ⟨rfl, ?_⟩) hHeld ?_
      rotate_left
      · intro w' hS; obtain ⟨⟨a0, a1, a2⟩, b0, b1⟩ := hS; go_simp <;> with_reducible rfl
      simp only [Act.put, List.getElem_toArray, List.getElem_cons_succ, List.getElem_cons_zero, List.setIfInBounds_toArray, List.set_cons_succ, List.set_cons_zero]
      refine wpAnyH_ready (rs := [2]) (by kernel_rfl) (by simp) (AllReadyH.cons rfl (fun K hK => ?_) AllReadyH.nil)
      go_simp
      refine (loParty_any A n c B m d s _).mono ?_
      rintro e wy ⟨rfl, hb⟩
      replace hcr := hcr.below hb
      replace hst := hst.below hb
      replace hF := hF.below hb
      replace ht := below_then ht hb ht.size
      clear hb
      refine hK.out _ _ ⟨box3_of hcr, box1_of hst⟩ (fun hHeld => ?_)
      clear hK K
      try simp only [Act.put, List.getElem_toArray, List.getElem_cons_succ, List.getElem_cons_zero, List.setIfInBounds_toArray, List.set_cons_succ, List.set_cons_zero]
      refine wpAnyH_ready (rs := [3]) (by kernel_rfl) (by simp) (AllReadyH.cons rfl (fun K hK => ?_) AllReadyH.nil)
      go_simp
      refine (paLast_any A n c 0 _ (by omega)).mono ?_
      rintro e wz ⟨A3, q3, rfl, hf3, hb⟩
      rw [trues_len]
      replace hcr := hcr.below hb
      replace hst := hst.below hb
      replace hF := hF.below hb
      replace ht := below_then ht hb ht.size
      clear hb
      refine hK.out _ _ ⟨box3_of hcr, box1_of hst⟩ (fun hHeld => ?_)
      clear hK K
      try simp only [Act.put, List.getElem_toArray, List.getElem_cons_succ, List.getElem_cons_zero, List.setIfInBounds_toArray, List.set_cons_succ, List.set_cons_zero]
      refine wpAnyH_ready (rs := [4]) (by kernel_rfl) (by simp) (AllReadyH.cons rfl (fun K hK => ?_) AllReadyH.nil)
      go_simp
      refine (paSame_any F A3 n q2 q3 sb (trues n) t true _ (by exact hF.holds) (by exact hf3.holds) HSB.out (trues_len n) (by omega)).mono ?_
      rintro e wv ⟨rfl, hb⟩
      replace hcr := hcr.below hb
      replace hst := hst.below hb
      replace ht := below_then ht hb ht.size
      clear hb
      refine hK.out _ _ ⟨box3_of hcr, box1_of hst⟩ (fun hHeld => ?_)
      clear hK K
      try simp only [Act.put, List.getElem_toArray, List.getElem_cons_succ, List.getElem_cons_zero, List.setIfInBounds_toArray, List.set_cons_succ, List.set_cons_zero]
      refine wpAnyH_take (i := 5) (v := ?_) rfl (by kernel_rfl) (by kernel_rfl) (by kernel_rfl) (fun _ _ _ h => h) (Or.inl ⟨rfl, ?_⟩) hHeld ?_
      rotate_left
      · intro w' hS; obtain ⟨⟨a0, a1, a2⟩, b0, b1⟩ := hS; go_simp <;> with_reducible rfl
      simp only [Act.put, List.getElem_toArray, List.getElem_cons_succ, List.getElem_cons_zero, List.setIfInBounds_toArray, List.set_cons_succ, List.set_cons_zero]
      refine wpAnyH_take (i := 6) (v := ?_) rfl (by kernel_rfl) (by kernel_rfl) (by kernel_rfl) (fun _ _ _ h => h) (Or.inl ⟨rfl, ?_⟩) hHeld ?_
      rotate_left
      · intro w' hS; obtain ⟨⟨a0, a1, a2⟩, b0, b1⟩ := hS; go_simp <;> with_reducible rfl
      simp only [Act.put, List.getElem_toArray, List.getElem_cons_succ, List.getElem_cons_zero, List.setIfInBounds_toArray, List.set_cons_succ, List.set_cons_zero]
      refine wpAnyH_done (by kernel_rfl) ?_ _
      clear hHeld
      go_wp2
      go_ret2
      exact ⟨by rw [HF.out.1, HF.out.2, HEN.out]; rfl, ht⟩
theorem implIsCrewPlan_on (A : Option Addr) (n : Nat) (B : Option Addr) (m d : Nat) (xs : List Int) (bs : List Bool) (s : Int) (D : Option Addr) (r z : Nat) (rs : List RowV) (ls : List (List Int)) (w : World) (hA : Holds w A (nums xs)) (hB : Holds w B (bits bs)) (hD : Grid w D rs) (he : rowNums rs = ls) (hx : xs.length = n) (hy : bs.length = m) (hz : rs.length = r) (hn : n ≤ 9223372036854775807) (hr : r ≤ 9223372036854775807) :
    Calls Try.prog 48 #[.agg #[.slice A n n, .slice B m d, .int .i64 s], .slice D r z] w (TwoTold (isWP xs bs m s ls) (wpOk xs m s ls) w) := by
  subst he
  exact implIsCrewPlan_any A n B m d xs bs s D r z rs w hA hB hD hx hy hz hn hr
theorem specIsCrewPlan_on (A : Option Addr) (n c : Nat) (B : Option Addr) (m d : Nat) (xs : List Int) (bs : List Bool) (s : Int) (D : Option Addr) (r z : Nat) (rs : List RowV) (ls : List (List Int)) (w : World) (hA : Holds w A (nums xs)) (hB : Holds w B (bits bs)) (hD : Grid w D rs) (he : rowNums rs = ls) (hx : xs.length = n) (hy : bs.length = m) (hz : rs.length = r) (hn : n ≤ 9223372036854775807) (hr : r ≤ 9223372036854775807) :
    Calls Try.prog 46 #[.agg #[.slice A n c, .slice B m d, .int .i64 s], .slice D r z] w (TwoTold (isWP xs bs m s ls) (wpOk xs m s ls) w) := by
  subst he
  exact specIsCrewPlan_any A n c B m d xs bs s D r z rs w hA hB hD hx hy hz hn hr
end Go.Proofs.Ytkocompjjogciaa

namespace Go.Proofs.Ytkocompjjogciaa
open Go.RowKit

/-- What a ride makes of a state. -/
noncomputable def rideOk (xs : List Int) (bs : List Bool) (m : Nat) (s : Int) (sb : List Bool) (t : Bool) (l : List Int) : Bool := crewState xs m s sb t && canRide xs bs s sb t l
noncomputable def rideBits (xs : List Int) (bs : List Bool) (m : Nat) (s : Int) (sb : List Bool) (t : Bool) (l : List Int) : List Bool := if rideOk xs bs m s sb t l then flipped sb l else []
noncomputable def rideTorch (xs : List Int) (bs : List Bool) (m : Nat) (s : Int) (sb : List Bool) (t : Bool) (l : List Int) : Bool := rideOk xs bs m s sb t l && !t
theorem rideW_no {xs : List Int} {bs : List Bool} {m : Nat} {s : Int} {sb : List Bool} {t : Bool} {l : List Int} (h : rideOk xs bs m s sb t l = false) : rideOk xs bs m s sb t l = false ∧ rideBits xs bs m s sb t l = [] ∧ rideTorch xs bs m s sb t l = false := ⟨h, by simp [rideBits, h], by simp [rideTorch, h]⟩
theorem rideW_yes {xs : List Int} {bs : List Bool} {m : Nat} {s : Int} {sb : List Bool} {t : Bool} {l : List Int} (h : rideOk xs bs m s sb t l = true) : rideOk xs bs m s sb t l = true ∧ rideBits xs bs m s sb t l = flipped sb l ∧ rideTorch xs bs m s sb t l = !t := ⟨h, by simp [rideBits, h], by simp [rideTorch, h]⟩
theorem rideBits_le {xs : List Int} {bs : List Bool} {m : Nat} {s : Int} {sb : List Bool} {t : Bool} {l : List Int} : (rideBits xs bs m s sb t l).length ≤ sb.length := by
  unfold rideBits; split
  · rw [flipped_len]; exact Nat.le_refl _
  · simp
theorem crewState_ok {xs : List Int} {m : Nat} {s : Int} {sb : List Bool} {t : Bool} (h : crewState xs m s sb t = true) : CrewOk xs m s ∧ sb.length = xs.length := by
  simp only [crewState, isState, Bool.and_eq_true, decide_eq_true_eq] at h
  exact ⟨isCrew_ok h.1, h.2.1⟩

theorem behindCrew_is (T : List Int → Int) (p gL g : Nat) (A D : Option Addr) (c n d : Nat) (ls : List (List Int)) (bs : List Bool) (t : Bool) (l : List Int) (w : World) (P : Array Value) (ok : Bool) (hp8 : p ≤ 8) (hbs : bs.length = p) (hls : ls.length ≤ 255) (hup : ∀ l ∈ ls, l ∈ upLists p p) (hF : RidesFn w T gL g A c ls) (hD : Holds w D (nums l)) (hl : l.length = n) (hn : n ≤ 9223372036854775807)
    (h : (l ∈ ridesAt bs t ls ∧ P = placeCells (flipped bs l) (!t) ∧ ok = true) ∨ (l ∉ ridesAt bs t ls ∧ P = placeCells bs t ∧ ok = false)) :
    Calls Try.prog 87 #[.agg (crewCells p gL), .agg (placeCells bs t), .slice D n d] w fun e w' => e = .returned (.tuple #[.agg P, .bool ok]) ∧ Below w.heap.size w w' :=
  (behindCrew_any T p gL g A D c n d ls bs t l w hp8 hbs hls hup hF hD hl hn).mono fun e w' ⟨h1, h2⟩ => by
    refine ⟨?_, h2⟩
    rcases h with ⟨ha, rfl, rfl⟩ | ⟨ha, rfl, rfl⟩ <;> rcases h1 with ⟨hb, rfl⟩ | ⟨hb, rfl⟩
    · rfl
    · exact absurd ha hb
    · exact absurd hb ha
    · rfl
/-- What stands behind the search for the ride. -/
def RideCut (w : World) (A B : Option Addr) (n0 m d : Nat) (s : Int) (P : Array Value) (ok : Bool) (v u : Value) (wx : World) : Prop :=
  ∃ g : Nat, v = .bool ok ∧ u = .pointer (some ⟨g, 0, none⟩) ∧ Whole wx g 113 P ∧ Whole wx w.heap.size 40 #[.slice A n0 n0, .slice B m d, .int .i64 s] ∧ Whole wx (w.heap.size + 1 + 1) 38 #[.slice none 0 0, .bool false] ∧ w.heap.size + 1 + 1 < g ∧ Below w.heap.size w wx

set_option maxHeartbeats 12800000 in
set_option maxRecDepth 100000 in
set_option linter.unusedSimpArgs false in
set_option linter.unusedVariables false in
theorem implRideWithCrew_any (A : Option Addr) (n0 : Nat) (B : Option Addr) (m d : Nat) (xs : List Int) (bs : List Bool) (s : Int) (D : Option Addr) (q z : Nat) (sb : List Bool) (t : Bool) (E : Option Addr) (r y : Nat) (l : List Int) (w : World) (hA : Holds w A (nums xs)) (hB : Holds w B (bits bs)) (hD : Holds w D (bits sb)) (hE : Holds w E (nums l)) (hx : xs.length = n0) (hy : bs.length = m) (hqq : sb.length = q) (hl : l.length = r) (hn : n0 ≤ 9223372036854775807) (hq : q ≤ 9223372036854775807) (hrr : r ≤ 9223372036854775807) :
    Calls Try.prog 35 #[.agg #[.slice A n0 n0, .slice B m d, .int .i64 s], .agg #[.slice D q z, .bool t], .slice E r y] w (StatePost (rideBits xs bs m s sb t l) (rideTorch xs bs m s sb t l) (rideOk xs bs m s sb t l) w) := by
  have HX := Lib.hid hx
  have HY := Lib.hid hy
  have HQ := Lib.hid hqq
  have HL := Lib.hid hl
  have hc := ((Whole.fresh w 40 #[.slice A n0 n0, .slice B m d, .int .i64 s]).alloc (.cells #[.slice D q z, .bool t] 38)).alloc (.cells #[.slice none 0 0, .bool false] 38)
  have hr := Whole.fresh ((w.alloc (.cells #[.slice A n0 n0, .slice B m d, .int .i64 s] 40)).alloc (.cells #[.slice D q z, .bool t] 38)) 38 #[.slice none 0 0, .bool false]
  have ht := below3 w (.cells #[.slice A n0 n0, .slice B m d, .int .i64 s] 40) (.cells #[.slice D q z, .bool t] 38) (.cells #[.slice none 0 0, .bool false] 38)
  rw [World.size_alloc, World.size_alloc] at hr
  have hcp := crewPlace_any A n0 n0 B m d xs s D q z sb t _ (hA.below ht) (hD.below ht) HX.out HQ.out hn hq
  go_enter Try.func35, Try.ntmps35
  go_wp2_with fail
  refine hcp.mono ?_
  clear hcp
  rintro e w1 ⟨⟨hp1, rfl⟩ | ⟨hp1, rfl⟩, hb⟩
  all_goals
    replace ht := below_then ht hb (by simp; omega)
    replace hc := hc.below hb
    replace hr := hr.below hb
    have hlr := hr.lt
    clear hb
  rotate_left
  · have HF := Lib.hid (rideW_no (show rideOk xs bs m s sb t l = false by simp [rideOk, hp1]))
    clear hp1
    unfold placeCells
    replace ht := ht.alloc ht.size (.cells #[.bool false, .bool false, .bool false, .bool false, .bool false, .bool false, .bool false, .bool false, .bool false] 113)
    replace hc := hc.alloc (.cells #[.bool false, .bool false, .bool false, .bool false, .bool false, .bool false, .bool false, .bool false, .bool false] 113)
    replace hr := hr.alloc (.cells #[.bool false, .bool false, .bool false, .bool false, .bool false, .bool false, .bool false, .bool false, .bool false] 113)
    go_upto_region 2 with fail
    generalize w1.alloc (.cells #[.bool false, .bool false, .bool false, .bool false, .bool false, .bool false, .bool false, .bool false, .bool false] 113) = W1 at hc hr ht ⊢
    obtain ⟨r0, r1, g0, g1⟩ := hr.two
    have hrl := hr.lt
    clear hc hr
    go_wp2
    refine bodyPost_ret (v := .tuple #[.agg #[.slice none 0 0, .bool false], .bool false]) (by simp [results, Try.results35, go_sem, r0, r1]) rfl (by rw [HF.out.1, HF.out.2.1, HF.out.2.2]; exact ⟨none, 0, rfl, .inl rfl, below_set (below_set ht (by omega)) (by omega)⟩)
  obtain ⟨hok, hsl⟩ := crewState_ok hp1
  have hn7 : n0 ≤ 7 := by have := hok.seven; omega
  have hn1 : 1 ≤ n0 := by have := hok.one; omega
  have hm8 : m ≤ 8 := by have := hok.rows; omega
  have HW := Lib.hid hok.weights
  have HSM := Lib.hid (crew_small (xs := xs) bs s (by omega))
  have HUP : Hid (∀ l ∈ crewLists xs bs s, l ∈ upLists n0 n0) := fun l hl => by have := crew_up hl; rw [hx] at this; exact this
  have HBS : Hid (sb.length = n0) := by show _ = _; omega
  obtain ⟨f, hf⟩ : ∃ f : Nat → Bool, f = fun i => sb.getD i false := ⟨_, rfl⟩
  have HPL : Hid (placeCells sb t = place9 f t) := by show _ = _; rw [place_nine9, hf]
  have hp := Whole.fresh w1 113 (place9 f t)
  replace ht := ht.alloc ht.size (.cells (place9 f t) 113)
  replace hc := hc.alloc (.cells (place9 f t) 113)
  replace hr := hr.alloc (.cells (place9 f t) 113)
  rw [HPL.out]
  clear hf
  obtain ⟨P, ok, hPok⟩ : ∃ (P : Array Value) (ok : Bool), ((l ∈ ridesAt sb t (crewLists xs bs s) ∧ P = placeCells (flipped sb l) (!t) ∧ ok = true) ∨ (l ∉ ridesAt sb t (crewLists xs bs s) ∧ P = placeCells sb t ∧ ok = false)) := by
    by_cases hm : l ∈ ridesAt sb t (crewLists xs bs s)
    · exact ⟨_, _, .inl ⟨hm, rfl, rfl⟩⟩
    · exact ⟨_, _, .inr ⟨hm, rfl, rfl⟩⟩
  have HIS := Lib.hid hPok
  have HSZ : Hid (P.size = 9) := by show _ = _; rcases hPok with ⟨-, rfl, -⟩ | ⟨-, rfl, -⟩ <;> rfl
  have HONE : Hid (P.all (·.oneCell') = true) := by show _ = _; rcases hPok with ⟨-, rfl, -⟩ | ⟨-, rfl, -⟩ <;> exact place_one _ _
  have HOK : Hid (rideOk xs bs m s sb t l = ok) := by
    show _ = _
    rw [rideOk, hp1]
    rcases hPok with ⟨hm, -, rfl⟩ | ⟨hm, -, rfl⟩
    · rw [ride_in.2 hm]; rfl
    · cases hcr : canRide xs bs s sb t l
      · rfl
      · exact absurd (ride_in.1 hcr) hm
  obtain ⟨gP, hgP⟩ : ∃ g : Nat, g = w1.heap.size := ⟨_, rfl⟩
  rw [← hgP] at hp
  have hgl : w.heap.size + 1 + 1 < gP := by omega
  clear hp1 hok hsl hPok hx hy hqq hl
  unfold place9 at hc hr hp ht
  unfold place9
  go_upto_region 4 with fail
  rw [← hgP]
  clear hgP
  generalize w1.alloc (.cells #[.bool (f 0), .bool (f 1), .bool (f 2), .bool (f 3), .bool (f 4), .bool (f 5), .bool (f 6), .bool (f 7), .bool t] 113) = W1 at hc hr hp ht ⊢
  have hpl := hp.lt
  go_cut [9, 10] (fun s9 s10 wx => RideCut w A B n0 m d s P ok s9 s10 wx)
  case first =>
    refine wp_region_held_drew (S := (fun w' => Box3 w.heap.size (.slice A n0 n0) (.slice B m d) (.int .i64 s) w' ∧ Row8 gP f w' ∧ w'.cell? ⟨gP, 8, none⟩ = some (.bool t))) (by kernel_rfl) ⟨box3_of hc.drew, row8_of hp.drew, hp.drew.cell 8⟩ (fun hHeld => ?_)
    replace ht := ht.drew
    replace hc := hc.drew
    replace hp := hp.drew
    replace hr := hr.drew
    refine wpAnyH_take (i := 0) (v := ?_) rfl (by kernel_rfl) (by kernel_rfl) (by kernel_rfl) (fun _ _ _ h => h) (Or.inl ⟨rfl, ?_⟩) hHeld ?_
    rotate_left
    · intro w' hS; obtain ⟨⟨s0, s1, s2⟩, ⟨a0, a1, a2, a3, a4, a5, a6, a7⟩, a8⟩ := hS; go_simp <;> with_reducible rfl
    simp only [Act.put, List.getElem_toArray, List.getElem_cons_succ, List.getElem_cons_zero, List.setIfInBounds_toArray, List.set_cons_succ, List.set_cons_zero]
    refine wpAnyH_take (i := 2) (v := ?_) rfl (by kernel_rfl) (by kernel_rfl) (by kernel_rfl) (fun _ _ _ h => h) (Or.inl ⟨rfl, ?_⟩) hHeld ?_
    rotate_left
    · intro w' hS; obtain ⟨⟨s0, s1, s2⟩, ⟨a0, a1, a2, a3, a4, a5, a6, a7⟩, a8⟩ := hS; go_simp <;> with_reducible rfl
    simp only [Act.put, List.getElem_toArray, List.getElem_cons_succ, List.getElem_cons_zero, List.setIfInBounds_toArray, List.set_cons_succ, List.set_cons_zero]
    refine wpAnyH_take (i := 3) (v := ?_) rfl (by kernel_rfl) (by kernel_rfl) (by kernel_rfl) (fun _ _ _ h => h) (Or.inl ⟨rfl, ?_⟩) hHeld ?_
    rotate_left
    · intro w' hS; obtain ⟨⟨s0, s1, s2⟩, ⟨a0, a1, a2, a3, a4, a5, a6, a7⟩, a8⟩ := hS; go_simp <;> with_reducible rfl
    simp only [Act.put, List.getElem_toArray, List.getElem_cons_succ, List.getElem_cons_zero, List.setIfInBounds_toArray, List.set_cons_succ, List.set_cons_zero]
    refine wpAnyH_ready (rs := [1, 8]) (by kernel_rfl) (by simp) (AllReadyH.cons rfl (fun K hK => ?_) (AllReadyH.cons rfl (fun K hK => ?_) AllReadyH.nil))
    · go_simp
      refine (crewRiver_any A n0 B m d xs bs s _ (by exact hA.below ht) (by exact hB.below ht) HX.out HY.out hn1 hn7 hm8 HW.out).mono ?_
      rintro e w2 ⟨gL, g, E1, c1, rfl, hF, hb⟩
      replace ht := below_then ht hb ht.size
      replace hc := hc.below hb
      replace hp := hp.below hb
      replace hr := hr.below hb
      clear hb
      refine hK.out _ _ ⟨box3_of hc, row8_of hp, hp.cell 8⟩ (fun hHeld => ?_)
      clear hK K
      try simp only [Act.put, List.getElem_toArray, List.getElem_cons_succ, List.getElem_cons_zero, List.setIfInBounds_toArray, List.set_cons_succ, List.set_cons_zero]
      refine wpAnyH_ready (rs := [4, 8]) (by kernel_rfl) (by simp) (AllReadyH.cons rfl (fun K hK => ?_) (AllReadyH.cons rfl (fun K hK => ?_) AllReadyH.nil))
      · go_simp
        have hsb := behindCrew_is (loadOf xs) n0 gL g E1 E c1 r y (crewLists xs bs s) sb t l _ P ok (by omega) HBS.out HSM.out HUP.out hF (by exact hE.below ht) HL.out hrr HIS.out
        rw [HPL.out] at hsb
        unfold place9 at hsb
        refine hsb.mono ?_
        clear hsb
        rintro e w4 ⟨rfl, hb⟩
        replace ht := below_then ht hb ht.size
        replace hc := hc.below hb
        replace hp := hp.below hb
        replace hr := hr.below hb
        clear hb
        refine hK.out _ _ ⟨box3_of hc, row8_of hp, hp.cell 8⟩ (fun hHeld => ?_)
        clear hK K
        try simp only [Act.put, List.getElem_toArray, List.getElem_cons_succ, List.getElem_cons_zero, List.setIfInBounds_toArray, List.set_cons_succ, List.set_cons_zero]
        refine wpAnyH_take (i := 5) (v := ?_) rfl (by kernel_rfl) (by kernel_rfl) (by kernel_rfl) (fun _ _ _ h => h) (Or.inl ⟨rfl, ?_⟩) hHeld ?_
        rotate_left
        · intro w' hS; obtain ⟨⟨s0, s1, s2⟩, ⟨a0, a1, a2, a3, a4, a5, a6, a7⟩, a8⟩ := hS; go_simp <;> with_reducible rfl
        simp only [Act.put, List.getElem_toArray, List.getElem_cons_succ, List.getElem_cons_zero, List.setIfInBounds_toArray, List.set_cons_succ, List.set_cons_zero]
        refine wpAnyH_take (i := 6) (v := ?_) rfl (by kernel_rfl) (by kernel_rfl) (by kernel_rfl) (fun _ _ _ h => h) (Or.inl ⟨rfl, ?_⟩) hHeld ?_
        rotate_left
        · intro w' hS; obtain ⟨⟨s0, s1, s2⟩, ⟨a0, a1, a2, a3, a4, a5, a6, a7⟩, a8⟩ := hS; go_simp <;> with_reducible rfl
        simp only [Act.put, List.getElem_toArray, List.getElem_cons_succ, List.getElem_cons_zero, List.setIfInBounds_toArray, List.set_cons_succ, List.set_cons_zero]
        refine wpAnyH_take (i := 7) (v := ?_) rfl (by kernel_rfl) (by kernel_rfl) (by kernel_rfl) (fun _ _ _ h => h) (Or.inl ⟨rfl, ?_⟩) hHeld ?_
        rotate_left
        · intro w' hS; obtain ⟨⟨s0, s1, s2⟩, ⟨a0, a1, a2, a3, a4, a5, a6, a7⟩, a8⟩ := hS; go_simp <;> with_reducible rfl
        simp only [Act.put, List.getElem_toArray, List.getElem_cons_succ, List.getElem_cons_zero, List.setIfInBounds_toArray, List.set_cons_succ, List.set_cons_zero]
        refine wpAnyH_ready (rs := [8]) (by kernel_rfl) (by simp) (AllReadyH.cons rfl (fun K hK => ?_) AllReadyH.nil)
        go_simp
        have hx := fresh_of hc 113 #[.bool false, .bool false, .bool false, .bool false, .bool false, .bool false, .bool false, .bool false, .bool false]
        try simp only [World.size_drew] at hx
        have hlx := hr.lt
        have hlp := hp.lt
        try simp only [World.size_drew] at hlx hlp
        replace ht := ht.alloc ht.size (.cells #[.bool false, .bool false, .bool false, .bool false, .bool false, .bool false, .bool false, .bool false, .bool false] 113)
        replace hc := hc.alloc (.cells #[.bool false, .bool false, .bool false, .bool false, .bool false, .bool false, .bool false, .bool false, .bool false] 113)
        replace hp := hp.alloc (.cells #[.bool false, .bool false, .bool false, .bool false, .bool false, .bool false, .bool false, .bool false, .bool false] 113)
        replace hr := hr.alloc (.cells #[.bool false, .bool false, .bool false, .bool false, .bool false, .bool false, .bool false, .bool false, .bool false] 113)
        replace hF := hF.alloc (.cells #[.bool false, .bool false, .bool false, .bool false, .bool false, .bool false, .bool false, .bool false, .bool false] 113)
        refine hK.out _ _ ⟨box3_of hc, row8_of hp, hp.cell 8⟩ (fun hHeld => ?_)
        clear hK K
        try simp only [Act.put, List.getElem_toArray, List.getElem_cons_succ, List.getElem_cons_zero, List.setIfInBounds_toArray, List.set_cons_succ, List.set_cons_zero]
        refine wpAnyH_ready (rs := [9]) (by kernel_rfl) (by simp) (AllReadyH.cons rfl (fun K hK => ?_) AllReadyH.nil)
        have hrl := hr.lt
        refine wp_store_row 113 (.tmp 10) (.tmp 26) rfl w4.heap.size P rfl rfl 113 #[.bool false, .bool false, .bool false, .bool false, .bool false, .bool false, .bool false, .bool false, .bool false] hx (by rw [HSZ.out]; exact size_place) (by rw [HSZ.out]; rfl) HONE.out ?_
        have o9 := only_setRow (w4.alloc (.cells #[.bool false, .bool false, .bool false, .bool false, .bool false, .bool false, .bool false, .bool false, .bool false] 113)) w4.heap.size P
        have x9 := whole_setRow P hx
        have c9 := o9.whole hc (by omega)
        have p9 := o9.whole hp (by omega)
        have r9 := o9.whole hr (by omega)
        have t9 := o9.below ht (by omega)
        generalize World.setRow (w4.alloc (.cells #[.bool false, .bool false, .bool false, .bool false, .bool false, .bool false, .bool false, .bool false, .bool false] 113)) w4.heap.size P = w9 at o9 x9 c9 p9 r9 t9 ⊢
        refine hK.out _ _ ⟨box3_of c9, row8_of p9, p9.cell 8⟩ (fun hHeld => ?_)
        clear hK K
        try simp only [Act.put, List.getElem_toArray, List.getElem_cons_succ, List.getElem_cons_zero, List.setIfInBounds_toArray, List.set_cons_succ, List.set_cons_zero]
        refine wpAnyH_take (i := 10) (v := ?_) rfl (by kernel_rfl) (by kernel_rfl) (by kernel_rfl) (fun _ _ _ h => h) (Or.inl ⟨rfl, ?_⟩) hHeld ?_
        rotate_left
        · intro w' hS; obtain ⟨⟨s0, s1, s2⟩, ⟨a0, a1, a2, a3, a4, a5, a6, a7⟩, a8⟩ := hS; go_simp <;> with_reducible rfl
        simp only [Act.put, List.getElem_toArray, List.getElem_cons_succ, List.getElem_cons_zero, List.setIfInBounds_toArray, List.set_cons_succ, List.set_cons_zero]
        refine wpAnyH_done (by kernel_rfl) ?_ _
        clear hHeld
        go_wp2_with fail
        go_meet
        exact ⟨w4.heap.size, rfl, rfl, x9, c9, r9, by omega, t9⟩
      · go_simp
        have hx := fresh_of hc 113 #[.bool false, .bool false, .bool false, .bool false, .bool false, .bool false, .bool false, .bool false, .bool false]
        try simp only [World.size_drew] at hx
        have hlx := hr.lt
        have hlp := hp.lt
        try simp only [World.size_drew] at hlx hlp
        replace ht := ht.alloc ht.size (.cells #[.bool false, .bool false, .bool false, .bool false, .bool false, .bool false, .bool false, .bool false, .bool false] 113)
        replace hc := hc.alloc (.cells #[.bool false, .bool false, .bool false, .bool false, .bool false, .bool false, .bool false, .bool false, .bool false] 113)
        replace hp := hp.alloc (.cells #[.bool false, .bool false, .bool false, .bool false, .bool false, .bool false, .bool false, .bool false, .bool false] 113)
        replace hr := hr.alloc (.cells #[.bool false, .bool false, .bool false, .bool false, .bool false, .bool false, .bool false, .bool false, .bool false] 113)
        replace hF := hF.alloc (.cells #[.bool false, .bool false, .bool false, .bool false, .bool false, .bool false, .bool false, .bool false, .bool false] 113)
        refine hK.out _ _ ⟨box3_of hc, row8_of hp, hp.cell 8⟩ (fun hHeld => ?_)
        clear hK K
        try simp only [Act.put, List.getElem_toArray, List.getElem_cons_succ, List.getElem_cons_zero, List.setIfInBounds_toArray, List.set_cons_succ, List.set_cons_zero]
        refine wpAnyH_ready (rs := [4]) (by kernel_rfl) (by simp) (AllReadyH.cons rfl (fun K hK => ?_) AllReadyH.nil)
        go_simp
        have hsb := behindCrew_is (loadOf xs) n0 gL g E1 E c1 r y (crewLists xs bs s) sb t l _ P ok (by omega) HBS.out HSM.out HUP.out hF (by exact hE.below ht) HL.out hrr HIS.out
        rw [HPL.out] at hsb
        unfold place9 at hsb
        refine hsb.mono ?_
        clear hsb
        rintro e w4 ⟨rfl, hb⟩
        replace ht := below_then ht hb ht.size
        replace hc := hc.below hb
        replace hp := hp.below hb
        replace hr := hr.below hb
        replace hx := hx.below hb
        clear hb
        refine hK.out _ _ ⟨box3_of hc, row8_of hp, hp.cell 8⟩ (fun hHeld => ?_)
        clear hK K
        try simp only [Act.put, List.getElem_toArray, List.getElem_cons_succ, List.getElem_cons_zero, List.setIfInBounds_toArray, List.set_cons_succ, List.set_cons_zero]
        refine wpAnyH_take (i := 5) (v := ?_) rfl (by kernel_rfl) (by kernel_rfl) (by kernel_rfl) (fun _ _ _ h => h) (Or.inl ⟨rfl, ?_⟩) hHeld ?_
        rotate_left
        · intro w' hS; obtain ⟨⟨s0, s1, s2⟩, ⟨a0, a1, a2, a3, a4, a5, a6, a7⟩, a8⟩ := hS; go_simp <;> with_reducible rfl
        simp only [Act.put, List.getElem_toArray, List.getElem_cons_succ, List.getElem_cons_zero, List.setIfInBounds_toArray, List.set_cons_succ, List.set_cons_zero]
        refine wpAnyH_take (i := 6) (v := ?_) rfl (by kernel_rfl) (by kernel_rfl) (by kernel_rfl) (fun _ _ _ h => h) (Or.inl ⟨rfl, ?_⟩) hHeld ?_
        rotate_left
        · intro w' hS; obtain ⟨⟨s0, s1, s2⟩, ⟨a0, a1, a2, a3, a4, a5, a6, a7⟩, a8⟩ := hS; go_simp <;> with_reducible rfl
        simp only [Act.put, List.getElem_toArray, List.getElem_cons_succ, List.getElem_cons_zero, List.setIfInBounds_toArray, List.set_cons_succ, List.set_cons_zero]
        refine wpAnyH_take (i := 7) (v := ?_) rfl (by kernel_rfl) (by kernel_rfl) (by kernel_rfl) (fun _ _ _ h => h) (Or.inl ⟨rfl, ?_⟩) hHeld ?_
        rotate_left
        · intro w' hS; obtain ⟨⟨s0, s1, s2⟩, ⟨a0, a1, a2, a3, a4, a5, a6, a7⟩, a8⟩ := hS; go_simp <;> with_reducible rfl
        simp only [Act.put, List.getElem_toArray, List.getElem_cons_succ, List.getElem_cons_zero, List.setIfInBounds_toArray, List.set_cons_succ, List.set_cons_zero]
        refine wpAnyH_ready (rs := [9]) (by kernel_rfl) (by simp) (AllReadyH.cons rfl (fun K hK => ?_) AllReadyH.nil)
        have hrl := hr.lt
        refine wp_store_row 113 (.tmp 10) (.tmp 26) rfl w2.heap.size P rfl rfl 113 #[.bool false, .bool false, .bool false, .bool false, .bool false, .bool false, .bool false, .bool false, .bool false] hx (by rw [HSZ.out]; exact size_place) (by rw [HSZ.out]; rfl) HONE.out ?_
        have o9 := only_setRow w4 w2.heap.size P
        have x9 := whole_setRow P hx
        have c9 := o9.whole hc (by omega)
        have p9 := o9.whole hp (by omega)
        have r9 := o9.whole hr (by omega)
        have t9 := o9.below ht (by omega)
        generalize World.setRow w4 w2.heap.size P = w9 at o9 x9 c9 p9 r9 t9 ⊢
        refine hK.out _ _ ⟨box3_of c9, row8_of p9, p9.cell 8⟩ (fun hHeld => ?_)
        clear hK K
        try simp only [Act.put, List.getElem_toArray, List.getElem_cons_succ, List.getElem_cons_zero, List.setIfInBounds_toArray, List.set_cons_succ, List.set_cons_zero]
        refine wpAnyH_take (i := 10) (v := ?_) rfl (by kernel_rfl) (by kernel_rfl) (by kernel_rfl) (fun _ _ _ h => h) (Or.inl ⟨rfl, ?_⟩) hHeld ?_
        rotate_left
        · intro w' hS; obtain ⟨⟨s0, s1, s2⟩, ⟨a0, a1, a2, a3, a4, a5, a6, a7⟩, a8⟩ := hS; go_simp <;> with_reducible rfl
        simp only [Act.put, List.getElem_toArray, List.getElem_cons_succ, List.getElem_cons_zero, List.setIfInBounds_toArray, List.set_cons_succ, List.set_cons_zero]
        refine wpAnyH_done (by kernel_rfl) ?_ _
        clear hHeld
        go_wp2_with fail
        go_meet
        exact ⟨w2.heap.size, rfl, rfl, x9, c9, r9, by omega, t9⟩
    · go_simp
      have hx := fresh_of hc 113 #[.bool false, .bool false, .bool false, .bool false, .bool false, .bool false, .bool false, .bool false, .bool false]
      try simp only [World.size_drew] at hx
      have hlx := hr.lt
      have hlp := hp.lt
      try simp only [World.size_drew] at hlx hlp
      replace ht := ht.alloc ht.size (.cells #[.bool false, .bool false, .bool false, .bool false, .bool false, .bool false, .bool false, .bool false, .bool false] 113)
      replace hc := hc.alloc (.cells #[.bool false, .bool false, .bool false, .bool false, .bool false, .bool false, .bool false, .bool false, .bool false] 113)
      replace hp := hp.alloc (.cells #[.bool false, .bool false, .bool false, .bool false, .bool false, .bool false, .bool false, .bool false, .bool false] 113)
      replace hr := hr.alloc (.cells #[.bool false, .bool false, .bool false, .bool false, .bool false, .bool false, .bool false, .bool false, .bool false] 113)
      refine hK.out _ _ ⟨box3_of hc, row8_of hp, hp.cell 8⟩ (fun hHeld => ?_)
      clear hK K
      try simp only [Act.put, List.getElem_toArray, List.getElem_cons_succ, List.getElem_cons_zero, List.setIfInBounds_toArray, List.set_cons_succ, List.set_cons_zero]
      refine wpAnyH_ready (rs := [1]) (by kernel_rfl) (by simp) (AllReadyH.cons rfl (fun K hK => ?_) AllReadyH.nil)
      go_simp
      refine (crewRiver_any A n0 B m d xs bs s _ (by exact hA.below ht) (by exact hB.below ht) HX.out HY.out hn1 hn7 hm8 HW.out).mono ?_
      rintro e w2 ⟨gL, g, E1, c1, rfl, hF, hb⟩
      replace ht := below_then ht hb ht.size
      replace hc := hc.below hb
      replace hp := hp.below hb
      replace hr := hr.below hb
      replace hx := hx.below hb
      clear hb
      refine hK.out _ _ ⟨box3_of hc, row8_of hp, hp.cell 8⟩ (fun hHeld => ?_)
      clear hK K
      try simp only [Act.put, List.getElem_toArray, List.getElem_cons_succ, List.getElem_cons_zero, List.setIfInBounds_toArray, List.set_cons_succ, List.set_cons_zero]
      refine wpAnyH_ready (rs := [4]) (by kernel_rfl) (by simp) (AllReadyH.cons rfl (fun K hK => ?_) AllReadyH.nil)
      go_simp
      have hsb := behindCrew_is (loadOf xs) n0 gL g E1 E c1 r y (crewLists xs bs s) sb t l _ P ok (by omega) HBS.out HSM.out HUP.out hF (by exact hE.below ht) HL.out hrr HIS.out
      rw [HPL.out] at hsb
      unfold place9 at hsb
      refine hsb.mono ?_
      clear hsb
      rintro e w4 ⟨rfl, hb⟩
      replace ht := below_then ht hb ht.size
      replace hc := hc.below hb
      replace hp := hp.below hb
      replace hr := hr.below hb
      replace hx := hx.below hb
      clear hb
      refine hK.out _ _ ⟨box3_of hc, row8_of hp, hp.cell 8⟩ (fun hHeld => ?_)
      clear hK K
      try simp only [Act.put, List.getElem_toArray, List.getElem_cons_succ, List.getElem_cons_zero, List.setIfInBounds_toArray, List.set_cons_succ, List.set_cons_zero]
      refine wpAnyH_take (i := 5) (v := ?_) rfl (by kernel_rfl) (by kernel_rfl) (by kernel_rfl) (fun _ _ _ h => h) (Or.inl ⟨rfl, ?_⟩) hHeld ?_
      rotate_left
      · intro w' hS; obtain ⟨⟨s0, s1, s2⟩, ⟨a0, a1, a2, a3, a4, a5, a6, a7⟩, a8⟩ := hS; go_simp <;> with_reducible rfl
      simp only [Act.put, List.getElem_toArray, List.getElem_cons_succ, List.getElem_cons_zero, List.setIfInBounds_toArray, List.set_cons_succ, List.set_cons_zero]
      refine wpAnyH_take (i := 6) (v := ?_) rfl (by kernel_rfl) (by kernel_rfl) (by kernel_rfl) (fun _ _ _ h => h) (Or.inl ⟨rfl, ?_⟩) hHeld ?_
      rotate_left
      · intro w' hS; obtain ⟨⟨s0, s1, s2⟩, ⟨a0, a1, a2, a3, a4, a5, a6, a7⟩, a8⟩ := hS; go_simp <;> with_reducible rfl
      simp only [Act.put, List.getElem_toArray, List.getElem_cons_succ, List.getElem_cons_zero, List.setIfInBounds_toArray, List.set_cons_succ, List.set_cons_zero]
      refine wpAnyH_take (i := 7) (v := ?_) rfl (by kernel_rfl) (by kernel_rfl) (by kernel_rfl) (fun _ _ _ h => h) (Or.inl ⟨rfl, ?_⟩) hHeld ?_
      rotate_left
      · intro w' hS; obtain ⟨⟨s0, s1, s2⟩, ⟨a0, a1, a2, a3, a4, a5, a6, a7⟩, a8⟩ := hS; go_simp <;> with_reducible rfl
      simp only [Act.put, List.getElem_toArray, List.getElem_cons_succ, List.getElem_cons_zero, List.setIfInBounds_toArray, List.set_cons_succ, List.set_cons_zero]
      refine wpAnyH_ready (rs := [9]) (by kernel_rfl) (by simp) (AllReadyH.cons rfl (fun K hK => ?_) AllReadyH.nil)
      have hrl := hr.lt
      refine wp_store_row 113 (.tmp 10) (.tmp 26) rfl W1.heap.size P rfl rfl 113 #[.bool false, .bool false, .bool false, .bool false, .bool false, .bool false, .bool false, .bool false, .bool false] hx (by rw [HSZ.out]; exact size_place) (by rw [HSZ.out]; rfl) HONE.out ?_
      have o9 := only_setRow w4 W1.heap.size P
      have x9 := whole_setRow P hx
      have c9 := o9.whole hc (by omega)
      have p9 := o9.whole hp (by omega)
      have r9 := o9.whole hr (by omega)
      have t9 := o9.below ht (by omega)
      generalize World.setRow w4 W1.heap.size P = w9 at o9 x9 c9 p9 r9 t9 ⊢
      refine hK.out _ _ ⟨box3_of c9, row8_of p9, p9.cell 8⟩ (fun hHeld => ?_)
      clear hK K
      try simp only [Act.put, List.getElem_toArray, List.getElem_cons_succ, List.getElem_cons_zero, List.setIfInBounds_toArray, List.set_cons_succ, List.set_cons_zero]
      refine wpAnyH_take (i := 10) (v := ?_) rfl (by kernel_rfl) (by kernel_rfl) (by kernel_rfl) (fun _ _ _ h => h) (Or.inl ⟨rfl, ?_⟩) hHeld ?_
      rotate_left
      · intro w' hS; obtain ⟨⟨s0, s1, s2⟩, ⟨a0, a1, a2, a3, a4, a5, a6, a7⟩, a8⟩ := hS; go_simp <;> with_reducible rfl
      simp only [Act.put, List.getElem_toArray, List.getElem_cons_succ, List.getElem_cons_zero, List.setIfInBounds_toArray, List.set_cons_succ, List.set_cons_zero]
      refine wpAnyH_done (by kernel_rfl) ?_ _
      clear hHeld
      go_wp2_with fail
      go_meet
      exact ⟨W1.heap.size, rfl, rfl, x9, c9, r9, by omega, t9⟩
  case rest =>
    clear hp hc hr ht hpl hgl
    obtain ⟨g, rfl, rfl, hx, hc, hr, hg, ht⟩ := hcut
    cases ok
    · have HF := Lib.hid (rideW_no HOK.out)
      obtain ⟨r0, r1, g0, g1⟩ := hr.two
      have hrl := hr.lt
      clear hc hr
      go_wp2
      refine bodyPost_ret (v := .tuple #[.agg #[.slice none 0 0, .bool false], .bool false]) (by simp [results, Try.results35, go_sem, r0, r1]) rfl (by rw [HF.out.1, HF.out.2.1, HF.out.2.2]; exact ⟨none, 0, rfl, .inl rfl, below_set (below_set ht (by omega)) (by omega)⟩)
    · have HF := Lib.hid (rideW_yes HOK.out)
      have HPC : Hid (P = placeCells (flipped sb l) (!t)) := by
        show _ = _
        rcases HIS.out with ⟨-, h, -⟩ | ⟨-, -, h⟩
        · exact h
        · cases h
      rw [HPC.out] at hx
      have HFL := Lib.hid (show (flipped sb l).length = n0 by rw [flipped_len]; exact HBS.out)
      obtain ⟨c0, c1, c2⟩ := hc.cells3
      go_wp2_with (refine wpList_load_row rfl 113 (.tmp 10) rfl g rfl 113 (placeCells (flipped sb l) (!t)) (0, 0) _ hx Try.underlying113 rfl size_place ?_)
      refine (placeState_any (flipped sb l) (!t) n0 wc HFL.out (by omega)).mono ?_
      rintro e w5 ⟨E5, r5, rfl, hf, hb⟩
      replace ht := below_then ht hb ht.size
      have hlo := hr.lt
      replace hr := hr.below hb
      obtain ⟨r0, r1, g0, g1⟩ := hr.two
      have hFF := ((hf.set_out (b := w.heap.size + 1 + 1) (o := 0) (u := .slice E5 (flipped sb l).length r5) (.inl (by omega))).set_out (b := w.heap.size + 1 + 1) (o := 1) (u := .bool (!t)) (.inl (by omega))).more (lo' := w.heap.size) (hi' := w5.heap.size) (by omega) (Nat.le_refl _)
      have HFF := Lib.hid hFF
      clear hb hr hf hFF hx hc c0 c1 c2
      go_wp2
      refine bodyPost_ret (v := .tuple #[.agg #[.slice E5 (flipped sb l).length r5, .bool (!t)], .bool true]) (by simp [results, Try.results35, go_sem, r0, r1]) rfl ?_
      rw [HF.out.1, HF.out.2.1, HF.out.2.2]
      refine ⟨E5, r5, rfl, ?_, below_set (below_set ht (by omega)) (by omega)⟩
      have h := HFF.out
      simpa [World.setCell] using h
end Go.Proofs.Ytkocompjjogciaa

namespace Go.Proofs.Ytkocompjjogciaa
open Go.RowKit

theorem size_st : (Try.prog.info? 38).map (·.size) = some 2 := by kernel_rfl
theorem Fresh.only {w w' : World} {lo hi b : Nat} {ty : TypeId} {A : Option Addr} {xs : List Value} (hf : Fresh w lo hi ty A xs) (o : Only b w w') (hb : b < lo) : Fresh w' lo hi ty A xs := by
  rcases hf with rfl | ⟨g, cs, hA, h1, h2, hw, h3, h4⟩
  · exact .inl rfl
  · exact .inr ⟨g, cs, hA, h1, h2, o.whole hw (by omega), h3, h4⟩
/-- Is the list a row in a calm state? -/
noncomputable def boatOk (a b : Int) (bs : List Bool) (t : Bool) (l : List Int) : Bool := calmIn a b bs t && tripM a.toNat b (codeOf bs t) l
noncomputable def boatBits (a b : Int) (bs : List Bool) (t : Bool) (l : List Int) : List Bool := if boatOk a b bs t l then flipped bs l else []
noncomputable def boatTorch (a b : Int) (bs : List Bool) (t : Bool) (l : List Int) : Bool := boatOk a b bs t l && !t
theorem boat_no {a b : Int} {bs : List Bool} {t : Bool} {l : List Int} (h : boatOk a b bs t l = false) : boatBits a b bs t l = [] ∧ boatTorch a b bs t l = false ∧ boatOk a b bs t l = false := by simp [boatBits, boatTorch, h]
theorem boat_yes {a b : Int} {bs : List Bool} {t : Bool} {l : List Int} (h : boatOk a b bs t l = true) : boatBits a b bs t l = flipped bs l ∧ boatTorch a b bs t l = !t ∧ boatOk a b bs t l = true := by simp [boatBits, boatTorch, h]
theorem bits_back {n : Nat} {cs : List Bool} {u : Bool} (h : cs.length = n) : bitsOf (codeOf cs u / 2) n = cs := by
  refine List.ext_getElem (by rw [bitsOf_len, h]) fun i h1 h2 => ?_
  have hb := bit_maskUp (fun i => cs.getD i false) cs.length i
  rw [← code_half cs u] at hb
  simp only [bitsOf, List.getElem_map, List.getElem_range]
  rw [hb]
  simp [h2]
theorem torch_back (cs : List Bool) (u : Bool) : bitAt (codeOf cs u) 0 = u := by rw [bit_code]; rfl

end Go.Proofs.Ytkocompjjogciaa

namespace Go.Proofs.Ytkocompjjogciaa
open Go.RowKit

theorem rows_of_same {k q x : Nat} (h : (!quiet k (bitAt (x / 2)) || rowsSame k q x) = true) (hq : quiet k (bitAt (x / 2)) = true) : (rowsM k q x (2 ^ (2 * k) - 1) 1 []).map listOf = rowsIn k q (bitsOf (x / 2) (2 * k)) (bitAt x 0) := by
  rw [hq, Bool.not_true, Bool.false_or] at h
  exact eq_of_beq h
theorem rows_list {k q : Nat} {bs : List Bool} {t : Bool} (hk1 : 1 ≤ k) (hk : k ≤ 4) (hq1 : 1 ≤ q) (hq4 : q ≤ 4) (hl : bs.length = 2 * k) (hq : quiet k (bitAt (codeOf bs t / 2)) = true) : (rowsM k q (codeOf bs t) (2 ^ (2 * k) - 1) 1 []).map listOf = rowsIn k q bs t := by
  have hx := code_lt bs t
  rw [hl] at hx
  have key : (rowsM k q (codeOf bs t) (2 ^ (2 * k) - 1) 1 []).map listOf = rowsIn k q (bitsOf (codeOf bs t / 2) (2 * k)) (bitAt (codeOf bs t) 0) := by
    obtain ⟨p, rfl⟩ : ∃ p, q = p + 1 := ⟨q - 1, by omega⟩
    refine rows_of_same ?_ hq
    generalize codeOf bs t = x at hx
    obtain rfl | rfl | rfl | rfl : k = 1 ∨ k = 2 ∨ k = 3 ∨ k = 4 := by omega
    · exact List.all_eq_true.1 (List.all_eq_true.1 rows_same1 p (List.mem_range.2 (by omega))) x (List.mem_range.2 (by omega))
    · exact List.all_eq_true.1 (List.all_eq_true.1 rows_same2 p (List.mem_range.2 (by omega))) x (List.mem_range.2 (by omega))
    · exact List.all_eq_true.1 (List.all_eq_true.1 rows_same3 p (List.mem_range.2 (by omega))) x (List.mem_range.2 (by omega))
    · exact List.all_eq_true.1 (List.all_eq_true.1 rows_same4 p (List.mem_range.2 (by omega))) x (List.mem_range.2 (by omega))
  rw [key, bits_back hl, torch_back]
theorem rowsM_mem (k : Nat) (q : Int) (x : Nat) : ∀ (n g : Nat) (out : List Nat), (∀ y ∈ out, y < 256) → g + n ≤ 256 → ∀ y ∈ rowsM k q x n g out, y < 256
  | 0, _, _, h, _ => h
  | n + 1, g, out, h, hg => rowsM_mem k q x n (g + 1) _ (by split; { exact insG_mem h (by omega) }; { exact h }) (by omega)
theorem rowsM_len (k : Nat) (q : Int) (x : Nat) : ∀ (n g : Nat) (out : List Nat), (rowsM k q x n g out).length ≤ out.length + n
  | 0, _, out => Nat.le_refl _
  | n + 1, g, out => by
    rw [rowsM_next]
    refine Nat.le_trans (rowsM_len k q x n (g + 1) _) ?_
    split
    · rw [insG_len]; omega
    · omega
/-- The rows of a state: none where it isn't calm. -/
noncomputable def rowsLs (a b : Int) (bs : List Bool) (t : Bool) : List (List Int) := if calmIn a b bs t then rowsIn a.toNat b.toNat bs t else []
theorem rowsLs_le {a b : Int} {bs : List Bool} {t : Bool} : (rowsLs a b bs t).length ≤ 1048576 ∧ ((rowsLs a b bs t).map List.length).sum ≤ 1048576 := by
  cases h : calmIn a b bs t
  · simp [rowsLs, h]
  · have hp : isPlace a b bs t = true := by
      cases hp : isPlace a b bs t
      · rw [calmIn_no hp] at h; cases h
      · rfl
    obtain ⟨k, rfl, hk1, hk, hb1, hb4, -, -, hl⟩ := place_co hp
    obtain ⟨q, rfl⟩ : ∃ q : Nat, b = q := ⟨b.toNat, by omega⟩
    have hq : quiet k (bitAt (codeOf bs t / 2)) = true := by rw [quiet_code (c := k) (t := t) hl, ← calmIn_yes hp]; exact h
    have hr := rows_list (q := q) hk1 hk (by omega) (by omega) hl hq
    rw [show rowsLs k q bs t = rowsIn k q bs t by simp [rowsLs, h], ← hr]
    have h1 := rowsM_len k q (codeOf bs t) (2 ^ (2 * k) - 1) 1 []
    have hp4 := pow_c hk
    generalize rowsM k q (codeOf bs t) (2 ^ (2 * k) - 1) 1 [] = R at h1
    have h2 := sum_lens (k := 8) (ls := R.map listOf) fun l hl => by obtain ⟨g, -, rfl⟩ := List.mem_map.1 hl; exact listOf_le g
    rw [List.length_map] at h2 ⊢
    simp only [List.length_nil] at h1
    omega

end Go.Proofs.Ytkocompjjogciaa

namespace Go.Proofs.Ytkocompjjogciaa
open Go.RowKit

/-- Heads of the call's own over rows that lie spread below them. -/
theorem heads_of_spread {w4 wr : World} {lo c : Nat} {A D : Option Addr} {rs : List RowV} (hs : Spread w4 lo A rs) (hb : Below w4.heap.size w4 wr) (ho : wr.ownsRow w4.heap.size 22 1 (.slice D rs.length c) rs.length (rowVals rs)) (hl : lo ≤ w4.heap.size) : Heads wr lo D c rs := by
  obtain ⟨ps, h2, h3, -⟩ := hs
  refine ⟨own_lower ho hl, ps, h2.below hb, fun p hp => ⟨(h3 p hp).1, Nat.le_trans (h3 p hp).2 hb.size⟩, fun a ha p hp => .inr ?_⟩
  subst ha
  exact Nat.le_trans (h3 p hp).2 (ho.lt a.block rfl).1

end Go.Proofs.Ytkocompjjogciaa

namespace Go.Proofs.Ytkocompjjogciaa
open Go.RowKit

/-- The rides that are told. -/
def ridesLs (xs : List Int) (bs : List Bool) (m : Nat) (s : Int) (sb : List Bool) (t : Bool) : List (List Int) := if crewState xs m s sb t then ridesAt sb t (crewLists xs bs s) else []

set_option maxHeartbeats 12800000 in
set_option maxRecDepth 100000 in
set_option linter.unusedSimpArgs false in
set_option linter.unusedVariables false in
theorem implRidesOfCrew_any (A : Option Addr) (n0 : Nat) (B : Option Addr) (m d : Nat) (xs : List Int) (bs : List Bool) (s : Int) (D0 : Option Addr) (q z : Nat) (sb : List Bool) (t : Bool) (w : World) (hA : Holds w A (nums xs)) (hB : Holds w B (bits bs)) (hD : Holds w D0 (bits sb)) (hx : xs.length = n0) (hy : bs.length = m) (hqq : sb.length = q) (hn : n0 ≤ 9223372036854775807) (hq : q ≤ 9223372036854775807) :
    Calls Try.prog 25 #[.agg #[.slice A n0 n0, .slice B m d, .int .i64 s], .agg #[.slice D0 q z, .bool t]] w (BackPost (ridesLs xs bs m s sb t) (crewState xs m s sb t) w) := by
  have HX := Lib.hid hx
  have HY := Lib.hid hy
  have HQ := Lib.hid hqq
  have hc := (Whole.fresh w 40 #[.slice A n0 n0, .slice B m d, .int .i64 s]).alloc (.cells #[.slice D0 q z, .bool t] 38)
  have ht := below2 w (.cells #[.slice A n0 n0, .slice B m d, .int .i64 s] 40) (.cells #[.slice D0 q z, .bool t] 38)
  have hcp := crewPlace_any A n0 n0 B m d xs s D0 q z sb t _ (hA.below ht) (hD.below ht) HX.out HQ.out hn hq
  go_enter Try.func25, Try.ntmps25
  go_wp2_with fail
  refine hcp.mono ?_
  clear hcp
  rintro e w1 ⟨⟨hp1, rfl⟩ | ⟨hp1, rfl⟩, hb⟩
  all_goals
    replace ht := below_then ht hb (by simp; omega)
    replace hc := hc.below hb
    have hlc := hc.lt
    clear hb
  rotate_left
  · have HF : Hid (ridesLs xs bs m s sb t = [] ∧ crewState xs m s sb t = false) := ⟨by simp [ridesLs, hp1], hp1⟩
    clear hp1
    unfold placeCells
    replace ht := ht.alloc ht.size (.cells #[.bool false, .bool false, .bool false, .bool false, .bool false, .bool false, .bool false, .bool false, .bool false] 113)
    replace hc := hc.alloc (.cells #[.bool false, .bool false, .bool false, .bool false, .bool false, .bool false, .bool false, .bool false, .bool false] 113)
    go_upto_region 2 with fail
    generalize w1.alloc (.cells #[.bool false, .bool false, .bool false, .bool false, .bool false, .bool false, .bool false, .bool false, .bool false] 113) = W1 at hc ht ⊢
    clear hc
    go_wp2
    go_ret2
    rw [HF.out.1, HF.out.2]
    exact BackPost.no ht
  obtain ⟨hok, hsl⟩ := crewState_ok hp1
  have hn7 : n0 ≤ 7 := by have := hok.seven; omega
  have hn1 : 1 ≤ n0 := by have := hok.one; omega
  have hm8 : m ≤ 8 := by have := hok.rows; omega
  have HW := Lib.hid hok.weights
  have HSM := Lib.hid (crew_small (xs := xs) bs s (by omega))
  have HUP : Hid (∀ l ∈ crewLists xs bs s, l ∈ upLists n0 n0) := fun l hl => by have := crew_up hl; rw [hx] at this; exact this
  have HBS : Hid (sb.length = n0) := by show _ = _; omega
  obtain ⟨f, hf⟩ : ∃ f : Nat → Bool, f = fun i => sb.getD i false := ⟨_, rfl⟩
  have HPL : Hid (placeCells sb t = place9 f t) := by show _ = _; rw [place_nine9, hf]
  have hp := Whole.fresh w1 113 (place9 f t)
  replace ht := ht.alloc ht.size (.cells (place9 f t) 113)
  replace hc := hc.alloc (.cells (place9 f t) 113)
  rw [HPL.out]
  clear hf
  have HF : Hid (ridesLs xs bs m s sb t = ridesAt sb t (crewLists xs bs s) ∧ crewState xs m s sb t = true) := ⟨by simp [ridesLs, hp1], hp1⟩
  obtain ⟨gP, hgP⟩ : ∃ g : Nat, g = w1.heap.size := ⟨_, rfl⟩
  rw [← hgP] at hp
  obtain ⟨i0, hi, hz0, hz1, hz2⟩ := info_parts info_row
  have HI := Lib.hid hi
  have HZ0 := Lib.hid hz0
  have HZ1 := Lib.hid hz1
  have HZ2 := Lib.hid hz2
  clear hp1 hi hz0 hz1 hz2 hok hsl hx hy hqq
  unfold place9 at hc hp ht
  unfold place9
  go_upto_region 5 with fail
  rw [← hgP]
  clear hgP
  generalize w1.alloc (.cells #[.bool (f 0), .bool (f 1), .bool (f 2), .bool (f 3), .bool (f 4), .bool (f 5), .bool (f 6), .bool (f 7), .bool t] 113) = W1 at hc hp ht ⊢
  refine wp_region_held_drew (S := (fun w' => Box3 w.heap.size (.slice A n0 n0) (.slice B m d) (.int .i64 s) w' ∧ Row8 gP f w' ∧ w'.cell? ⟨gP, 8, none⟩ = some (.bool t))) (by kernel_rfl) ⟨box3_of hc.drew, row8_of hp.drew, hp.drew.cell 8⟩ (fun hHeld => ?_)
  replace ht := ht.drew
  replace hc := hc.drew
  replace hp := hp.drew
  refine wpAnyH_take (i := 0) (v := ?_) rfl (by kernel_rfl) (by kernel_rfl) (by kernel_rfl) (fun _ _ _ h => h) (Or.inl ⟨rfl, ?_⟩) hHeld ?_
  rotate_left
  · intro w' hS; obtain ⟨⟨s0, s1, s2⟩, ⟨a0, a1, a2, a3, a4, a5, a6, a7⟩, a8⟩ := hS; go_simp <;> with_reducible rfl
  simp only [Act.put, List.getElem_toArray, List.getElem_cons_succ, List.getElem_cons_zero, List.setIfInBounds_toArray, List.set_cons_succ, List.set_cons_zero]
  refine wpAnyH_take (i := 3) (v := ?_) rfl (by kernel_rfl) (by kernel_rfl) (by kernel_rfl) (fun _ _ _ h => h) (Or.inl ⟨rfl, ?_⟩) hHeld ?_
  rotate_left
  · intro w' hS; obtain ⟨⟨s0, s1, s2⟩, ⟨a0, a1, a2, a3, a4, a5, a6, a7⟩, a8⟩ := hS; go_simp <;> with_reducible rfl
  simp only [Act.put, List.getElem_toArray, List.getElem_cons_succ, List.getElem_cons_zero, List.setIfInBounds_toArray, List.set_cons_succ, List.set_cons_zero]
  refine wpAnyH_take (i := 6) (v := ?_) rfl (by kernel_rfl) (by kernel_rfl) (by kernel_rfl) (fun _ _ _ h => h) (Or.inl ⟨rfl, ?_⟩) hHeld ?_
  rotate_left
  · intro w' hS; obtain ⟨⟨s0, s1, s2⟩, ⟨a0, a1, a2, a3, a4, a5, a6, a7⟩, a8⟩ := hS; go_simp <;> with_reducible rfl
  simp only [Act.put, List.getElem_toArray, List.getElem_cons_succ, List.getElem_cons_zero, List.setIfInBounds_toArray, List.set_cons_succ, List.set_cons_zero]
  refine wpAnyH_ready (rs := [1]) (by kernel_rfl) (by simp) (AllReadyH.cons rfl (fun K hK => ?_) AllReadyH.nil)
  go_simp
  refine (crewRiver_any A n0 B m d xs bs s _ (by exact hA.below ht) (by exact hB.below ht) HX.out HY.out hn1 hn7 hm8 HW.out).mono ?_
  rintro e w2 ⟨gL, g, E1, c1, rfl, hF, hb⟩
  replace ht := below_then ht hb ht.size
  replace hc := hc.below hb
  replace hp := hp.below hb
  clear hb
  have HT2 := Lib.hid ht
  have hfd : ∀ W : World, (Instr.field 119 (.agg (crewCells n0 gL)) 2).run Try.prog W = .ok (ridesFnV gL) W := fun _ => by kernel_rfl
  unfold crewCells ridesFnV at hfd
  unfold crewCells ridesFnV
  refine hK.out _ _ ⟨box3_of hc, row8_of hp, hp.cell 8⟩ (fun hHeld => ?_)
  clear hK K
  try simp only [Act.put, List.getElem_toArray, List.getElem_cons_succ, List.getElem_cons_zero, List.setIfInBounds_toArray, List.set_cons_succ, List.set_cons_zero]
  refine wpAnyH_take (i := 2) (v := ?_) rfl (by kernel_rfl) (by kernel_rfl) (by kernel_rfl) (fun _ _ _ h => h) (Or.inl ⟨rfl, ?_⟩) hHeld ?_
  rotate_left
  · intro w' hS; obtain ⟨⟨s0, s1, s2⟩, ⟨a0, a1, a2, a3, a4, a5, a6, a7⟩, a8⟩ := hS; go_simp <;> with_reducible rfl
  simp only [Act.put, List.getElem_toArray, List.getElem_cons_succ, List.getElem_cons_zero, List.setIfInBounds_toArray, List.set_cons_succ, List.set_cons_zero]
  refine wpAnyH_ready (rs := [4]) (by kernel_rfl) (by simp) (AllReadyH.cons rfl (fun K hK => ?_) AllReadyH.nil)
  go_simp
  have hrf := ridesFn_any (loadOf xs) n0 gL g E1 c1 (crewLists xs bs s) sb t _ (by omega) HBS.out HSM.out HUP.out hF
  rw [HPL.out] at hrf
  unfold place9 at hrf
  refine hrf.mono ?_
  clear hrf
  rintro e w4 ⟨A1, c2, rs, rfl, hrn, hM, hb⟩
  have hw24 := hb.size
  replace ht := below_then ht hb ht.size
  replace hc := hc.below hb
  replace hp := hp.below hb
  clear hb
  refine hK.out _ _ ⟨box3_of hc, row8_of hp, hp.cell 8⟩ (fun hHeld => ?_)
  clear hK K
  try simp only [Act.put, List.getElem_toArray, List.getElem_cons_succ, List.getElem_cons_zero, List.setIfInBounds_toArray, List.set_cons_succ, List.set_cons_zero]
  refine wpAnyH_take (i := 5) (v := ?_) rfl (by kernel_rfl) (by kernel_rfl) (by kernel_rfl) (fun _ _ _ h => h) (Or.inl ⟨rfl, ?_⟩) hHeld ?_
  rotate_left
  · intro w' hS; obtain ⟨⟨s0, s1, s2⟩, ⟨a0, a1, a2, a3, a4, a5, a6, a7⟩, a8⟩ := hS; go_simp <;> with_reducible rfl
  simp only [Act.put, List.getElem_toArray, List.getElem_cons_succ, List.getElem_cons_zero, List.setIfInBounds_toArray, List.set_cons_succ, List.set_cons_zero]
  refine wpAnyH_done (by kernel_rfl) ?_ _
  clear hHeld
  clear hc hp hF
  have HM := Lib.hid hM
  have HRN := Lib.hid hrn
  have hrl : rs.length ≤ 255 := by have h1 := congrArg List.length hrn; have h2 := rides_len sb t (crewLists xs bs s); have h3 := HSM.out; rw [rowNums_len] at h1; omega
  have HT := Lib.hid ht
  have hws := ht.size
  have HWS : Hid (w.heap.size ≤ w2.heap.size) := HT2.out.size
  clear hM hrn ht
  go_wp2
  go_loopw [8, 25] (fun v i wr => ∃ (j : Nat) (D : Option Addr) (c : Nat), j ≤ rs.length ∧ i = .int .i64 j ∧ v = .slice D j c ∧ wr.ownsRow w4.heap.size 22 1 (.slice D j c) j (rowVals (rs.take j)) ∧ Below w4.heap.size w4 wr) (fun _ i _ => rs.length - (intOf i).toNat)
  case atStart => exact ⟨0, none, 0, Nat.zero_le _, rfl, rfl, World.ownsRow_nil _ _ _ _, Below.refl _ _⟩
  case round =>
    obtain ⟨j, D, c, hj, rfl, rfl, hown, hb⟩ := hrel
    by_cases hlt : j < rs.length
    · have hd : decide ((j : Int) < (rs.length : Int)) = true := by simp; omega
      obtain ⟨gm, rfl, hgl, a0, a1, a2, a3, a4, a5, a6, a7, a8, a9⟩ := moves_row (HM.out.below hb) hlt
      obtain ⟨f', hf'⟩ : ∃ f' : Nat → Bool, f' = fun i => (flipped sb rs[j].xs).getD i false := ⟨_, rfl⟩
      replace a1 : wr.cell? ⟨gm, j * 10 + 1, none⟩ = some (.bool (f' 0)) := by rw [a1, hf']
      replace a2 : wr.cell? ⟨gm, j * 10 + 2, none⟩ = some (.bool (f' 1)) := by rw [a2, hf']
      replace a3 : wr.cell? ⟨gm, j * 10 + 3, none⟩ = some (.bool (f' 2)) := by rw [a3, hf']
      replace a4 : wr.cell? ⟨gm, j * 10 + 4, none⟩ = some (.bool (f' 3)) := by rw [a4, hf']
      replace a5 : wr.cell? ⟨gm, j * 10 + 5, none⟩ = some (.bool (f' 4)) := by rw [a5, hf']
      replace a6 : wr.cell? ⟨gm, j * 10 + 6, none⟩ = some (.bool (f' 5)) := by rw [a6, hf']
      replace a7 : wr.cell? ⟨gm, j * 10 + 7, none⟩ = some (.bool (f' 6)) := by rw [a7, hf']
      replace a8 : wr.cell? ⟨gm, j * 10 + 8, none⟩ = some (.bool (f' 7)) := by rw [a8, hf']
      have hnx : rowVals (rs.take (j + 1)) = rowVals (rs.take j) ++ [rs[j].val] := by
        unfold rowVals
        rw [List.take_succ_eq_append_getElem hlt, List.map_append, List.map_cons, List.map_nil]
      have HNX := Lib.hid hnx
      clear hf' hnx
      generalize rs[j] = r at a0 HNX
      obtain ⟨rA, rn, rc, rx⟩ := r
      unfold RowV.val at a0 HNX
      simp only at a0 HNX
      have hbs := hb.size
      obtain ⟨X, hX⟩ : ∃ X : Obj, X = (.cells #[.slice rA rn rc, .bool (f' 0), .bool (f' 1), .bool (f' 2), .bool (f' 3), .bool (f' 4), .bool (f' 5), .bool (f' 6), .bool (f' 7), .bool (!t)] 122) := ⟨_, rfl⟩
      have HOWN := Lib.hid ((own_keep hown (below1 wr X)).alloc (.cells #[.slice rA rn rc] 22))
      have HB := Lib.hid (hb.alloc hbs X)
      have HMAX := Lib.hid (show j + 1 ≤ maxLen by unfold maxLen; omega)
      have HBYT := Lib.hid (show (j + 1) * 24 ≤ 140737488355328 by omega)
      have HBASE := Lib.hid (show w4.heap.size ≤ ((wr.alloc X).alloc (.cells #[.slice rA rn rc] 22)).heap.size by simp; omega)
      have HB2 := Lib.hid (HB.out.alloc (by simp; omega) (.cells #[.slice rA rn rc] 22))
      have hcn := cell_one_new (wr.alloc X) (.slice rA rn rc) 22
      rw [World.size_alloc] at hcn
      have HCN := Lib.hid hcn
      clear hcn
      subst hX
      clear hown hb
      go_wp2_with (at_builtin; refine wpList_append_lies _ rfl (.tmp 29) (.tmp 32) 28 rfl w4.heap.size 22 i0 (.slice none 0 0) 1 24 Try.underlying28 HI.out HZ0.out HZ1.out HZ2.out rfl (by decide) (.slice D j c) j (rowVals (rs.take j)) rfl HOWN.out ⟨wr.heap.size + 1, 0, none⟩ 1 1 [.slice rA rn rc] rfl rfl HCN.out (by simp [Value.oneCell']) (by decide) HMAX.out HBYT.out HBASE.out (wr.heap.size + 1 + 1) (by simp) ?_; intro g1 cap w5 hown4 hg4 hat hlt4)
      have HBN := Lib.hid (HB2.out.grown hg4 HBASE.out (fun kk hkk => (HOWN.out.lt kk hkk).1))
      have HO4 := Lib.hid hown4
      clear hown4 hg4 hat hlt4 a0 a1 a2 a3 a4 a5 a6 a7 a8 a9
      go_roundw
      case rel => exact ⟨j + 1, some ⟨g1, 0, none⟩, cap, by omega, by go_num, rfl, by rw [HNX.out]; exact HO4.out, HBN.out⟩
      case measure => simp [intOf]; omega
    · obtain rfl : j = rs.length := by omega
      have hd : decide ((rs.length : Int) < (rs.length : Int)) = false := by simp
      rw [List.take_length] at hown
      have HH := Lib.hid ((heads_of_spread HM.out.2 hb hown hw24).raise HWS.out)
      have HBN := Lib.hid (below_then HT.out hb hws)
      clear hown hb
      go_wp2
      go_ret2
      rw [HF.out.1, HF.out.2]
      exact ⟨D, rs.length, c, rs, rfl, HRN.out, rfl, HH.out.free, HBN.out⟩
end Go.Proofs.Ytkocompjjogciaa

namespace Go.Proofs.Ytkocompjjogciaa
open Go.RowKit

/-- Some of the rows that lie spread lie spread. -/
theorem free_pair {w : World} {ps : List (Nat × Nat)} {rs : List RowV} (h : FreeRows w ps rs) : (∀ y ∈ rs.zip ps, Fresh w y.2.1 y.2.2 3 y.1.A (nums y.1.xs) ∧ y.1.xs.length = y.1.n ∧ y.1.n ≤ 1048576) ∧ (rs.zip ps).Pairwise (fun a b => a.2.2 ≤ b.2.1 ∨ b.2.2 ≤ a.2.1) := by
  obtain ⟨h1, h2, h3⟩ := h
  refine ⟨fun y hy => ?_, ?_⟩
  · obtain ⟨k, hk, rfl⟩ := List.getElem_of_mem hy
    have hk' : k < rs.length ∧ k < ps.length := by have h9 := hk; rw [List.length_zip] at h9; omega
    have := h2 k rs[k] ps[k] (by simp [hk'.1]) (by simp [hk'.2])
    simpa using this
  · rw [List.pairwise_iff_getElem]
    intro i j hi hj hij
    have hi' : i < rs.length ∧ i < ps.length := by have h9 := hi; rw [List.length_zip] at h9; omega
    have hj' : j < rs.length ∧ j < ps.length := by have h9 := hj; rw [List.length_zip] at h9; omega
    have := h3 i j ps[i] ps[j] (by omega) (by simp [hi'.2]) (by simp [hj'.2])
    simpa using this
theorem free_of {w : World} {zs : List (RowV × (Nat × Nat))} (h1 : ∀ y ∈ zs, Fresh w y.2.1 y.2.2 3 y.1.A (nums y.1.xs) ∧ y.1.xs.length = y.1.n ∧ y.1.n ≤ 1048576) (h2 : zs.Pairwise (fun a b => a.2.2 ≤ b.2.1 ∨ b.2.2 ≤ a.2.1)) : FreeRows w (zs.map Prod.snd) (zs.map Prod.fst) := by
  refine ⟨by simp, fun k r p hr hp => ?_, fun i j p p' hne hp hp' => ?_⟩
  · rw [List.getElem?_map] at hr hp
    obtain ⟨y, hy, rfl⟩ := Option.map_eq_some_iff.1 hr
    rw [hy] at hp
    obtain rfl : y.2 = p := by simpa using hp
    exact h1 y (List.mem_of_getElem? hy)
  · rw [List.getElem?_map] at hp hp'
    obtain ⟨y, hy, rfl⟩ := Option.map_eq_some_iff.1 hp
    obtain ⟨y', hy', rfl⟩ := Option.map_eq_some_iff.1 hp'
    obtain ⟨hi, rfl⟩ := List.getElem?_eq_some_iff.1 hy
    obtain ⟨hj, rfl⟩ := List.getElem?_eq_some_iff.1 hy'
    rcases Nat.lt_or_gt_of_ne hne with h | h
    · exact List.pairwise_iff_getElem.1 h2 i j hi hj h
    · exact (List.pairwise_iff_getElem.1 h2 j i hj hi h).symm
theorem Heads.some_of {w wr : World} {lo c c' : Nat} {A D : Option Addr} {rs : List RowV} (f : RowV → Bool) (h : Heads w lo A c rs) (hb : Below w.heap.size w wr) (ho : wr.ownsRow w.heap.size 22 1 (.slice D (rs.filter f).length c') (rs.filter f).length (rowVals (rs.filter f))) (hl : lo ≤ w.heap.size) : Heads wr lo D c' (rs.filter f) := by
  obtain ⟨-, ps, hf, hp, -⟩ := h
  obtain ⟨h1, h2⟩ := free_pair hf
  have hz : ((rs.zip ps).filter (fun y => f y.1)).map Prod.fst = rs.filter f := by
    have h0 : (rs.zip ps).map Prod.fst = rs := by rw [List.map_fst_zip]; rw [hf.1]; exact Nat.le_refl _
    have h6 : rs.filter f = ((rs.zip ps).map Prod.fst).filter f := by rw [h0]
    rw [h6, List.filter_map]
    rfl
  have hfree : FreeRows w (((rs.zip ps).filter (fun y => f y.1)).map Prod.snd) (rs.filter f) := by
    rw [← hz]
    exact free_of (fun y hy => h1 y (List.mem_filter.1 hy).1) (h2.sublist List.filter_sublist)
  have hps : ∀ p ∈ ((rs.zip ps).filter (fun y => f y.1)).map Prod.snd, p ∈ ps := fun p hp => by
    obtain ⟨y, hy, rfl⟩ := List.mem_map.1 hp
    exact (List.of_mem_zip (List.mem_filter.1 hy).1).2
  refine ⟨own_lower ho hl, _, hfree.below hb, fun p hp' => ⟨(hp p (hps p hp')).1, Nat.le_trans (hp p (hps p hp')).2 hb.size⟩, fun a ha p hp' => .inr ?_⟩
  subst ha
  exact Nat.le_trans (hp p (hps p hp')).2 (ho.lt a.block rfl).1
theorem subs_any {m m' : Nat} : ∀ (o b : List Int), b.length + o.length ≤ m → b.length + o.length ≤ m' → subs m o b = subs m' o b
  | [], _, _, _ => rfl
  | k :: r, b, h, h' => by
    have h0 : b.length + (r.length + 1) ≤ m := h
    have h0' : b.length + (r.length + 1) ≤ m' := h'
    have e1 : subs m (k :: r) b = ((b ++ [k]) :: subs m r (b ++ [k])) ++ subs m r b := by rw [subs, if_neg (by omega)]
    have e2 : subs m' (k :: r) b = ((b ++ [k]) :: subs m' r (b ++ [k])) ++ subs m' r b := by rw [subs, if_neg (by omega)]
    rw [e1, e2, subs_any (m' := m') r (b ++ [k]) (by simp; omega) (by simp; omega), subs_any (m' := m') r b (by omega) (by omega)]
theorem subs_filter (P : Int → Bool) (m : Nat) : ∀ (o b : List Int), b.length + o.length ≤ m → subs m (o.filter P) b = (subs m o b).filter (fun l => (l.drop b.length).all P)
  | [], _, _ => rfl
  | k :: r, b, h => by
    have h0 : b.length + (r.length + 1) ≤ m := h
    have hd : ∀ l ∈ subs m r (b ++ [k]), ((l.drop b.length).all P) = (P k && (l.drop (b ++ [k]).length).all P) := fun l hl => by
      obtain ⟨c, rfl, -, -, -⟩ := (subs_mem m r (b ++ [k]) l).1 hl
      rw [List.append_assoc, List.drop_left, show b ++ ([k] ++ c) = (b ++ [k]) ++ c by simp, List.drop_left]
      simp
    have ih := subs_filter P m r b (by omega)
    rw [subs, if_neg (by omega), List.filter_append, List.filter_cons, ← ih]
    by_cases hk : P k = true
    · have ih2 := subs_filter P m r (b ++ [k]) (by simp; omega)
      have hlen : (r.filter P).length ≤ r.length := List.length_filter_le _ _
      rw [List.filter_cons, if_pos hk, subs, if_neg (by omega), ih2]
      rw [List.filter_congr hd]
      simp [hk]
    · have hk' : P k = false := by simpa using hk
      rw [List.filter_cons, if_neg hk, List.filter_congr hd]
      simp [hk']
/-- What the model's rides come to. -/
def RidesPost (ls : List (List Int)) (w : World) (e : Ending) (w' : World) : Prop :=
  ∃ (A : Option Addr) (c : Nat) (rs : List RowV), e = .returned (.slice A rs.length c) ∧ rowNums rs = ls ∧ Heads w' w.heap.size A c rs ∧ Below w.heap.size w w'
theorem nums_filter (f : List Int → Bool) (rs : List RowV) : rowNums (rs.filter (fun r => f r.xs)) = (rowNums rs).filter f := by
  rw [rowNums, rowNums, List.filter_map]; rfl
/-- The rides among the groups of those who are where the boat is. -/
theorem rides_groups {xs : List Int} {bs : List Bool} {m : Nat} {s : Int} {sb : List Bool} {t : Bool} (hok : CrewOk xs m s) (hsl : sb.length = xs.length) :
    (subs (hereTo sb t sb.length).length (hereTo sb t sb.length) []).filter (fun l => canRide xs bs s sb t l) = ridesAt sb t (crewLists xs bs s) := by
  have hh : hereTo sb t sb.length = (firsts sb.length).filter (fun k => sb.getD k.toNat false == t) := here_range sb t sb.length
  have hle : (hereTo sb t sb.length).length ≤ sb.length := here_len sb t _
  rw [subs_any (m' := sb.length) (hereTo sb t sb.length) [] (by simp) (by simpa using hle), hh, subs_filter _ _ (firsts sb.length) [] (by simp [firsts_len]), List.filter_filter]
  rw [ridesAt, crewLists, legsIn, List.filter_filter, hsl, upLists]
  refine List.filter_congr fun l hl => ?_
  have hu := up_steps (n := xs.length) (m := xs.length) hl
  have h1 : rising l ((xs.length : Int) - 1) = true := rising_yes hu.1 (Nat.le_refl _)
  have h2 : l ≠ [] := fun e => by subst e; simp at hu
  have h3 : (l.drop ([] : List Int).length).all (fun k => sb.getD k.toNat false == t) = allAt sb t l := rfl
  rw [h3]
  simp only [canRide, h1, legOk, ne_eq, h2, not_false_eq_true, decide_true, Bool.true_and]
  cases allAt sb t l <;> cases canRow bs l <;> cases decide (loadOf xs l ≤ s) <;> rfl

set_option maxHeartbeats 6400000 in
set_option maxRecDepth 100000 in
set_option linter.unusedVariables false in
set_option linter.unusedSimpArgs false in
theorem loRides_any (A : Option Addr) (n c : Nat) (B : Option Addr) (m d : Nat) (xs : List Int) (bs : List Bool) (s : Int) (D : Option Addr) (q z : Nat) (sb : List Bool) (t : Bool) (w : World) (hA : Holds w A (nums xs)) (hB : Holds w B (bits bs)) (hD : Holds w D (bits sb)) (hx : xs.length = n) (hy : bs.length = m) (hqq : sb.length = q) (hok : CrewOk xs m s) (hsl : sb.length = xs.length) :
    Calls Try.prog 79 #[.agg #[.slice A n c, .slice B m d, .int .i64 s], .agg #[.slice D q z, .bool t]] w (RidesPost (ridesAt sb t (crewLists xs bs s)) w) := by
  have hq8 : q ≤ 8 := by have := hok.seven; omega
  obtain ⟨i0, hi, hz0, hz1, hz2⟩ := info_parts info_int
  have HI := Lib.hid hi
  have HZ0 := Lib.hid hz0
  have HZ1 := Lib.hid hz1
  have HZ2 := Lib.hid hz2
  obtain ⟨i1, hi1, hy0, hy1, hy2⟩ := info_parts info_row
  have HI1 := Lib.hid hi1
  have HY0 := Lib.hid hy0
  have HY1 := Lib.hid hy1
  have HY2 := Lib.hid hy2
  have HX := Lib.hid hx
  have HYB := Lib.hid hy
  have HY := Lib.hid hqq
  have HOK := Lib.hid hok
  have HSL := Lib.hid hsl
  have HRG := Lib.hid (rides_groups (bs := bs) (t := t) hok hsl)
  have h0 := (Whole.fresh w 40 #[.slice A n c, .slice B m d, .int .i64 s]).alloc (.cells #[.slice D q z, .bool t] 38)
  have h1 := Whole.fresh (w.alloc (.cells #[.slice A n c, .slice B m d, .int .i64 s] 40)) 38 #[.slice D q z, .bool t]
  rw [World.size_alloc] at h1
  have hbw := below2 w (.cells #[.slice A n c, .slice B m d, .int .i64 s] 40) (.cells #[.slice D q z, .bool t] 38)
  have HBW := Lib.hid hbw
  have HH0 := Lib.hid h0
  have HH1 := Lib.hid h1
  obtain ⟨c0, c1, c2⟩ := h0.cells3
  obtain ⟨e0, e1, -, -⟩ := h1.two
  clear hi hz0 hz1 hz2 hi1 hy0 hy1 hy2 hx hy hqq hok hsl hbw h0 h1
  go_enter Try.func79, Try.ntmps79
  go_wp2
  clear c0 c1 c2 e0 e1
  go_loopw [5, 14] (fun v i wr => ∃ (k : Nat) (E : Option Addr) (r : Nat), k ≤ q ∧ i = .int .i64 k ∧ v = .slice E (hereTo sb t k).length r ∧ wr.ownsRow (w.heap.size + 2) 3 1 (.slice E (hereTo sb t k).length r) (hereTo sb t k).length (nums (hereTo sb t k)) ∧ Below (w.heap.size + 2) ((w.alloc (.cells #[.slice A n c, .slice B m d, .int .i64 s] 40)).alloc (.cells #[.slice D q z, .bool t] 38)) wr) (fun _ i _ => q - (intOf i).toNat)
  case atStart => exact ⟨0, none, 0, Nat.zero_le _, rfl, rfl, World.ownsRow_nil _ _ _ _, Below.refl _ _⟩
  case round =>
    obtain ⟨k, E, r, hk, rfl, rfl, hown, hb⟩ := hrel
    have hb' : Below w.heap.size w wr := HBW.out.trans (hb.mono (by omega))
    have hhl := here_len sb t k
    obtain ⟨c0, c1, c2⟩ := (HH0.out.below' hb (by omega)).cells3
    obtain ⟨e0, e1, -, -⟩ := (HH1.out.below' hb (by omega)).two
    have hs2 : w.heap.size + 2 ≤ wr.heap.size := by have := hb.size; simpa using this
    by_cases hlt : k < q
    · have hkb : k < sb.length := by have := HY.out; omega
      obtain ⟨b1, o1, rfl, hbl1, hcell⟩ := (hD.below hb').look (k := k) (by rw [bits_len]; exact hkb)
      simp only [bits, List.getElem_map] at hcell
      have hg : sb.getD k false = sb[k] := by simp [hkb]
      have hyes := here_yes (bs := sb) (t := t) (k := k)
      have hno := here_no (bs := sb) (t := t) (k := k)
      rw [hg] at hyes hno
      generalize sb[k] = x at hcell hyes hno
      clear hg
      have HOWN := Lib.hid hown
      have HB := Lib.hid hb
      clear hown hb hb'
      by_cases hxt : x = t
      · subst hxt
        have HS := Lib.hid (hyes (by simp))
        have HOW := Lib.hid (HOWN.out.alloc (.cells #[.int .i64 k] 3))
        have HBB := Lib.hid (HB.out.alloc (by simpa using hs2) (.cells #[.int .i64 k] 3))
        have HBASE := Lib.hid (show w.heap.size + 2 ≤ (wr.alloc (.cells #[.int .i64 k] 3)).heap.size by simp; omega)
        have HMAX := Lib.hid (show (hereTo sb x k).length + 1 ≤ maxLen by unfold maxLen; omega)
        have HBYT := Lib.hid (show ((hereTo sb x k).length + 1) * 8 ≤ 140737488355328 by omega)
        have HLEN : Hid ((hereTo sb x (k + 1)).length = (hereTo sb x k).length + 1) := by show _ = _; rw [HS.out]; simp
        clear hyes hno
        go_wp2_with (at_builtin; refine wpList_append_own _ rfl (.tmp 23) (.tmp 25) 22 rfl (w.heap.size + 2) 3 i0 (.int .i64 0) 1 8 Try.underlying22 HI.out HZ0.out HZ1.out HZ2.out rfl (by decide) (.slice E (hereTo sb x k).length r) (hereTo sb x k).length (nums (hereTo sb x k)) rfl HOW.out ⟨wr.heap.size, 0, none⟩ 1 1 [.int .i64 k] rfl rfl (cell_one_new _ _ _) (by simp [Value.oneCell']) HMAX.out HBYT.out HBASE.out ?_; intro v' w2 hown1 hg1 _; obtain ⟨D', q', hv', -⟩ := Fresh.of_own hown1 (Nat.le_refl _); rw [hv'] at hown1 ⊢; clear hv')
        have HBN := Lib.hid (HBB.out.grown hg1 HBASE.out (fun kk e => (HOW.out.lt _ e).1))
        have HON := Lib.hid hown1
        clear hg1 hown1
        go_roundw
        case rel => exact ⟨k + 1, D', q', by omega, by go_num, by rw [HLEN.out], by rw [HLEN.out, HS.out, show nums (hereTo sb x k ++ [(k : Int)]) = nums (hereTo sb x k) ++ [.int .i64 k] by simp [nums]]; exact HON.out, HBN.out⟩
        case measure => simp [intOf]; omega
      · have HS := Lib.hid (hno (by simpa using hxt))
        have hxf : (x == t) = false := by simpa using hxt
        clear hyes hno
        go_wp2
        go_roundw
        case rel => exact ⟨k + 1, E, r, by omega, by go_num, by rw [HS.out], by rw [HS.out]; exact HOWN.out, HB.out⟩
        case measure => simp [intOf]; omega
    · obtain rfl : k = q := by omega
      have HL := Lib.hid (here_len sb t k)
      have HHH := Lib.hid (holds_of_own hown)
      have hwz : w.heap.size ≤ wr.heap.size := by omega
      have HWZ := Lib.hid hwz
      have HB' := Lib.hid hb'
      rw [HY.out] at HRG
      have hcW := HH0.out.below' hb (by omega)
      have hsW := HH1.out.below' hb (by omega)
      clear hown hb hb' hwz
      go_wp2_with fail
      refine (paGroups_any (hereTo sb t k).length (by omega) 10 none E 0 0 (hereTo sb t k).length r 0 [] (hereTo sb t k) _ (by omega) (by omega) (Nat.zero_le _) (Holds.empty _ _) HHH.out rfl rfl (Nat.zero_le _) (fun _ => ⟨rfl, rfl⟩)).mono ?_
      rintro e w4 ⟨A4, c4, rs4, rfl, hr4, hn4, hs4, hh4, hb4⟩
      rw [show groups (hereTo sb t k).length ((hereTo sb t k).drop 0) [] = subs (hereTo sb t k).length (hereTo sb t k) [] from rfl] at hr4
      have hrl : rs4.length ≤ 255 := by
        have h1 := congrArg List.length hr4
        rw [rowNums_len] at h1
        rw [h1]; exact subs_small (by omega)
      have HR4 := Lib.hid hr4
      have HH4 := Lib.hid hh4
      have HB4 := Lib.hid (below_then HB'.out hb4 HWZ.out)
      have HC4 := Lib.hid (hcW.below hb4)
      have HS4 := Lib.hid (hsW.below hb4)
      have HZ4 := Lib.hid (show w.heap.size ≤ w4.heap.size from Nat.le_trans HWZ.out hb4.size)
      have HRZ := Lib.hid hb4.size
      clear hr4 hn4 hs4 hh4 hb4 c0 c1 c2 e0 e1 hcW hsW
      go_wp2
      go_loopw [8, 33] (fun v i wx => ∃ (j : Nat) (F : Option Addr) (c5 : Nat), j ≤ rs4.length ∧ i = .int .i64 j ∧ v = .slice F ((rs4.take j).filter (fun r => canRide xs bs s sb t r.xs)).length c5 ∧ wx.ownsRow w4.heap.size 22 1 (.slice F ((rs4.take j).filter (fun r => canRide xs bs s sb t r.xs)).length c5) ((rs4.take j).filter (fun r => canRide xs bs s sb t r.xs)).length (rowVals ((rs4.take j).filter (fun r => canRide xs bs s sb t r.xs))) ∧ Below w4.heap.size w4 wx) (fun _ i _ => rs4.length - (intOf i).toNat)
      case atStart => exact ⟨0, none, 0, Nat.zero_le _, rfl, rfl, World.ownsRow_nil _ _ _ _, Below.refl _ _⟩
      case round =>
        obtain ⟨j, F, c5, hj, rfl, rfl, hown, hb⟩ := hrel
        have hsl2 : ((rs4.take j).filter (fun r => canRide xs bs s sb t r.xs)).length ≤ 255 := Nat.le_trans (List.length_filter_le _ _) (by rw [List.length_take]; omega)
        by_cases hlt : j < rs4.length
        · have hd : decide ((j : Int) < (rs4.length : Int)) = true := by simp; omega
          obtain ⟨b5, o5, rfl, hbl5, hcell5, hrow5, hrl5, hrn5⟩ := (HH4.out.free.grid.below hb).look hlt
          have hnx : ∀ f : RowV → Bool, (rs4.take (j + 1)).filter f = (rs4.take j).filter f ++ (if f rs4[j] then [rs4[j]] else []) := fun f => by
            rw [List.take_succ_eq_append_getElem hlt, List.filter_append]
            by_cases hf : f rs4[j] = true <;> simp [hf]
          have HNX := Lib.hid (hnx (fun r => canRide xs bs s sb t r.xs))
          clear hnx
          generalize (rs4.take j).filter (fun r => canRide xs bs s sb t r.xs) = sel at hown hsl2 HNX ⊢
          obtain ⟨c0, c1, c2⟩ := (HC4.out.below hb).cells3
          obtain ⟨e0, e1, -, -⟩ := (HS4.out.below hb).two
          have hbw5 : Below w.heap.size w wr := below_then HB4.out hb HZ4.out
          have HOWN := Lib.hid hown
          have HB := Lib.hid hb
          have HBW5 := Lib.hid hbw5
          generalize hrj : rs4[j] = rr at hcell5 hrow5 hrl5 hrn5 HNX
          clear hrj hown hb hbw5
          obtain ⟨rA, rn, rc, rx⟩ := rr
          simp only [RowV.val] at hcell5 hrow5 hrl5 hrn5
          have HRW := Lib.hid hrow5
          have HRL := Lib.hid hrl5
          clear hrow5 hrl5
          go_wp2_with fail
          refine (loCan_any A n c B m d xs bs s D k z sb t rA rn rc rx wr (by exact hA.below HBW5.out) (by exact hB.below HBW5.out) (by exact hD.below HBW5.out) HRW.out HX.out HYB.out HY.out HRL.out hrn5 HOK.out HSL.out).mono ?_
          rintro e w6 ⟨rfl, hb⟩
          have HB6 := Lib.hid (below_then HB.out hb HB.out.size)
          have HO6 := Lib.hid (ownsRow_below HOWN.out hb)
          clear hb c0 c1 c2 e0 e1 hcell5
          cases hcr : canRide xs bs s sb t rx
          · have HS := Lib.hid (HNX.out.trans (by simp [hcr] : sel ++ (if (fun r : RowV => canRide xs bs s sb t r.xs) ⟨rA, rn, rc, rx⟩ then [(⟨rA, rn, rc, rx⟩ : RowV)] else []) = sel))
            clear hcr
            go_wp2
            go_roundw
            case rel => exact ⟨j + 1, F, c5, by omega, by go_num, by rw [HS.out], by rw [HS.out]; exact HO6.out, HB6.out⟩
            case measure => simp [intOf]; omega
          · have HS := Lib.hid (HNX.out.trans (by simp [hcr] : sel ++ (if (fun r : RowV => canRide xs bs s sb t r.xs) ⟨rA, rn, rc, rx⟩ then [(⟨rA, rn, rc, rx⟩ : RowV)] else []) = sel ++ [⟨rA, rn, rc, rx⟩]))
            have HSL1 : Hid ((sel ++ [(⟨rA, rn, rc, rx⟩ : RowV)]).length = sel.length + 1) := by show _ = _; simp
            have HSV : Hid (rowVals (sel ++ [(⟨rA, rn, rc, rx⟩ : RowV)]) = rowVals sel ++ [.slice rA rn rc]) := by show _ = _; simp [rowVals, RowV.val]
            have HOW := Lib.hid (HO6.out.alloc (.cells #[.slice rA rn rc] 22))
            have HBB := Lib.hid (HB6.out.alloc HB6.out.size (.cells #[.slice rA rn rc] 22))
            have hz6 := HB6.out.size
            have HBASE := Lib.hid (show w4.heap.size ≤ (w6.alloc (.cells #[.slice rA rn rc] 22)).heap.size by simp; omega)
            have HMAX := Lib.hid (show sel.length + 1 ≤ maxLen by unfold maxLen; omega)
            have HBYT := Lib.hid (show (sel.length + 1) * 24 ≤ 140737488355328 by omega)
            have HCN := Lib.hid (cell_one_new w6 (.slice rA rn rc) 22)
            clear hcr hz6
            go_wp2_with (at_builtin; refine wpList_append_own _ rfl (.tmp 41) (.tmp 43) 28 rfl w4.heap.size 22 i1 (.slice none 0 0) 1 24 Try.underlying28 HI1.out HY0.out HY1.out HY2.out rfl (by decide) (.slice F sel.length c5) sel.length (rowVals sel) rfl HOW.out ⟨w6.heap.size, 0, none⟩ 1 1 [.slice rA rn rc] rfl rfl HCN.out (by simp [Value.oneCell']) HMAX.out HBYT.out HBASE.out ?_; intro v' w7 hown1 hg1 _; obtain ⟨g2, e2, hv2⟩ := own_form hown1; subst hv2)
            have HBN := Lib.hid (HBB.out.grown hg1 HBASE.out (fun kk hkk => (HOW.out.lt kk hkk).1))
            have HON := Lib.hid hown1
            clear hown1 hg1
            go_roundw
            case rel => exact ⟨j + 1, some ⟨g2, 0, none⟩, e2, by omega, by go_num, by rw [HS.out, HSL1.out], by rw [HS.out, HSL1.out, HSV.out]; exact HON.out, HBN.out⟩
            case measure => simp [intOf]; omega
        · obtain rfl : j = rs4.length := by omega
          have hd : decide ((rs4.length : Int) < (rs4.length : Int)) = false := by simp
          rw [List.take_length] at hown ⊢
          have HHD := Lib.hid ((Heads.some_of (fun r => canRide xs bs s sb t r.xs) HH4.out hb hown HRZ.out).raise HWZ.out)
          have HBN := Lib.hid (below_then HB4.out hb HZ4.out)
          have HRN := Lib.hid (nums_filter (fun l => canRide xs bs s sb t l) rs4)
          clear hown hb
          go_wp2
          go_ret
          exact ⟨F, c5, _, rfl, by rw [HRN.out, HR4.out, HRG.out], HHD.out, HBN.out⟩

set_option maxHeartbeats 3200000 in
set_option maxRecDepth 100000 in
set_option linter.unusedVariables false in
theorem specRidesOfCrew_any (A : Option Addr) (n c : Nat) (B : Option Addr) (m d : Nat) (xs : List Int) (bs : List Bool) (s : Int) (D : Option Addr) (q z : Nat) (sb : List Bool) (t : Bool) (w : World) (hA : Holds w A (nums xs)) (hB : Holds w B (bits bs)) (hD : Holds w D (bits sb)) (hx : xs.length = n) (hy : bs.length = m) (hqq : sb.length = q) (hn : n ≤ 9223372036854775807) (hq : q ≤ 9223372036854775807) :
    Calls Try.prog 22 #[.agg #[.slice A n c, .slice B m d, .int .i64 s], .agg #[.slice D q z, .bool t]] w (BackPost (ridesLs xs bs m s sb t) (crewState xs m s sb t) w) := by
  have HX := Lib.hid hx
  have HY := Lib.hid hy
  have HQ := Lib.hid hqq
  have h0 := (Whole.fresh w 40 #[.slice A n c, .slice B m d, .int .i64 s]).alloc (.cells #[.slice D q z, .bool t] 38)
  have h1 := Whole.fresh (w.alloc (.cells #[.slice A n c, .slice B m d, .int .i64 s] 40)) 38 #[.slice D q z, .bool t]
  rw [World.size_alloc] at h1
  have ht := below2 w (.cells #[.slice A n c, .slice B m d, .int .i64 s] 40) (.cells #[.slice D q z, .bool t] 38)
  cases hp : crewState xs m s sb t
  · have HP := Lib.hid hp
    have HF : Hid (ridesLs xs bs m s sb t = []) := by show _ = _; simp [ridesLs, hp]
    rw [HF.out]
    clear hp hx hy hqq
    go_enter Try.func22, Try.ntmps22
    go_wp2_with fail
    refine (loAsked_any A n c B m d xs s D q z sb t _ (by exact hA.below ht) (by exact hD.below ht) HX.out HQ.out hn hq).mono ?_
    rintro e w1 ⟨rfl, hb⟩
    rw [HP.out]
    replace ht := below_then ht hb ht.size
    clear hb h0 h1
    go_wp2
    go_ret2
    exact BackPost.no ht
  · have HP := Lib.hid hp
    have HF : Hid (ridesLs xs bs m s sb t = ridesAt sb t (crewLists xs bs s)) := by show _ = _; simp [ridesLs, hp]
    obtain ⟨hok, hsl⟩ := crewState_ok hp
    have HOK := Lib.hid hok
    have HSL := Lib.hid hsl
    rw [HF.out]
    clear hp hx hy hqq hok hsl
    go_enter Try.func22, Try.ntmps22
    go_wp2_with fail
    refine (loAsked_any A n c B m d xs s D q z sb t _ (by exact hA.below ht) (by exact hD.below ht) HX.out HQ.out hn hq).mono ?_
    rintro e w1 ⟨rfl, hb⟩
    rw [HP.out]
    replace ht := below_then ht hb ht.size
    obtain ⟨a0, a1, a2⟩ := (h0.below hb).cells3
    obtain ⟨d0, d1, -, -⟩ := (h1.below hb).two
    clear hb h0 h1
    go_wp2_with fail
    refine (loRides_any A n c B m d xs bs s D q z sb t _ (by exact hA.below ht) (by exact hB.below ht) (by exact hD.below ht) HX.out HY.out HQ.out HOK.out HSL.out).mono ?_
    rintro e w2 ⟨A2, c2, rs, rfl, hr, hh, hb⟩
    have HR := Lib.hid hr
    have HH := Lib.hid (hh.raise ht.size)
    have HB := Lib.hid (below_then ht hb ht.size)
    clear hr hh hb a0 a1 a2 d0 d1 ht
    go_wp2
    go_ret2
    exact ⟨A2, rs.length, c2, rs, rfl, HR.out, rfl, HH.out.free, HB.out⟩
theorem rides_le {n : Nat} {xs : List Int} {bs : List Bool} {m : Nat} {s : Int} {sb : List Bool} {t : Bool} : (ridesLs xs bs m s sb t).length ≤ 1048576 ∧ ((ridesLs xs bs m s sb t).map List.length).sum ≤ 1048576 := by
  unfold ridesLs
  cases hp : crewState xs m s sb t
  · simp
  obtain ⟨hok, hsl⟩ := crewState_ok hp
  rw [if_pos rfl]
  have h1 : (ridesAt sb t (crewLists xs bs s)).length ≤ 255 := Nat.le_trans (rides_len _ _ _) (crew_small bs s hok.seven)
  have h2 : ∀ l ∈ ridesAt sb t (crewLists xs bs s), l.length ≤ 7 := fun l hl => by
    have h3 := up_steps (crew_up (List.mem_filter.1 hl).1)
    have := hok.seven
    omega
  have h3 : ∀ (L : List (List Int)), (∀ l ∈ L, l.length ≤ 7) → (L.map List.length).sum ≤ 7 * L.length := fun L => by
    induction L with
    | nil => intro _; simp
    | cons l L ih =>
      intro h
      have := ih fun x hx => h x (List.mem_cons_of_mem _ hx)
      have := h l (List.mem_cons_self ..)
      simp only [List.map_cons, List.sum_cons, List.length_cons]
      omega
  have := h3 _ h2
  omega
end Go.Proofs.Ytkocompjjogciaa

namespace Go.Proofs.Ytkocompjjogciaa
open Go.RowKit

set_option maxHeartbeats 800000 in
set_option linter.unusedVariables false in
theorem lawRidesOfCrew_big0 (A0 : Option Addr) (n0 c0 : Nat) (x0 : List Int) (A1 : Option Addr) (n1 c1 : Nat) (x1 : List Bool) (k0 : Int) (A2 : Option Addr) (n2 c2 : Nat) (x2 : List Bool) (t0 : Bool) (w : World) (h0 : Holds w A0 (nums x0)) (hx0 : x0.length = n0) (hn0 : n0 ≤ 9223372036854775807) (h1 : Holds w A1 (bits x1)) (hx1 : x1.length = n1) (hn1 : n1 ≤ 9223372036854775807) (h2 : Holds w A2 (bits x2)) (hx2 : x2.length = n2) (hn2 : n2 ≤ 9223372036854775807)  (hbig : 1048576 - (n0 : Int) - (n1 : Int) < 0) :
    Calls Try.prog 4 #[.agg #[.slice A0 n0 c0, .slice A1 n1 c1, .int .i64 k0], .agg #[.slice A2 n2 c2, .bool t0]] w fun e w' => e = .returned (.bool true) ∧ Below w.heap.size w w' := by
  have hb0 := ((Whole.fresh w 32 #[.slice A0 n0 c0, .slice A1 n1 c1, .int .i64 k0]).alloc (.cells #[.slice A2 n2 c2, .bool t0] 27))
  have hb1 := (Whole.fresh (w.alloc (.cells #[.slice A0 n0 c0, .slice A1 n1 c1, .int .i64 k0] 32)) 27 #[.slice A2 n2 c2, .bool t0])
  simp only [World.size_alloc] at hb1
  have ht := below2 w (.cells #[.slice A0 n0 c0, .slice A1 n1 c1, .int .i64 k0] 32) (.cells #[.slice A2 n2 c2, .bool t0] 27)
  have HX0 := Lib.hid hx0
  have HX1 := Lib.hid hx1
  have HX2 := Lib.hid hx2
  clear hx0 hx1 hx2
  obtain ⟨hb0_0, hb0_1, hb0_2⟩ := hb0.cells3
  have hb0_l := hb0.lt
  obtain ⟨hb1_0, hb1_1⟩ := hb1.cells2
  have hb1_l := hb1.lt
  go_enter Try.func4, Try.ntmps4
  go_wp2_with fail
  refine (szCrew_any A0 n0 c0 A1 n1 c1 k0 (1048576) _ (by omega) (by omega) (by omega) (by omega)).mono ?_
  rintro e v1 ⟨rfl, hb⟩
  rw [crewLeft_bad (by omega)]
  have hz1 : w.heap.size + 1 + 1 ≤ v1.heap.size := by have := hb.size; simpa using this
  replace ht := below_then ht hb ht.size
  replace hb0 := hb0.below hb
  replace hb1 := hb1.below hb
  clear hb
  clear hb0_0 hb0_1 hb0_2 hb0_l hb1_0 hb1_1 hb1_l
  go_wp2
  go_ret
  exact ⟨rfl, ht⟩

set_option maxHeartbeats 800000 in
set_option linter.unusedVariables false in
theorem lawRidesOfCrew_big1 (A0 : Option Addr) (n0 c0 : Nat) (x0 : List Int) (A1 : Option Addr) (n1 c1 : Nat) (x1 : List Bool) (k0 : Int) (A2 : Option Addr) (n2 c2 : Nat) (x2 : List Bool) (t0 : Bool) (w : World) (h0 : Holds w A0 (nums x0)) (hx0 : x0.length = n0) (hn0 : n0 ≤ 9223372036854775807) (h1 : Holds w A1 (bits x1)) (hx1 : x1.length = n1) (hn1 : n1 ≤ 9223372036854775807) (h2 : Holds w A2 (bits x2)) (hx2 : x2.length = n2) (hn2 : n2 ≤ 9223372036854775807) (g0 : 0 ≤ 1048576 - (n0 : Int) - (n1 : Int)) (hbig : 1048576 - (n0 : Int) - (n1 : Int) - (n2 : Int) < 0) :
    Calls Try.prog 4 #[.agg #[.slice A0 n0 c0, .slice A1 n1 c1, .int .i64 k0], .agg #[.slice A2 n2 c2, .bool t0]] w fun e w' => e = .returned (.bool true) ∧ Below w.heap.size w w' := by
  have hb0 := ((Whole.fresh w 32 #[.slice A0 n0 c0, .slice A1 n1 c1, .int .i64 k0]).alloc (.cells #[.slice A2 n2 c2, .bool t0] 27))
  have hb1 := (Whole.fresh (w.alloc (.cells #[.slice A0 n0 c0, .slice A1 n1 c1, .int .i64 k0] 32)) 27 #[.slice A2 n2 c2, .bool t0])
  simp only [World.size_alloc] at hb1
  have ht := below2 w (.cells #[.slice A0 n0 c0, .slice A1 n1 c1, .int .i64 k0] 32) (.cells #[.slice A2 n2 c2, .bool t0] 27)
  have HX0 := Lib.hid hx0
  have HX1 := Lib.hid hx1
  have HX2 := Lib.hid hx2
  clear hx0 hx1 hx2
  obtain ⟨hb0_0, hb0_1, hb0_2⟩ := hb0.cells3
  have hb0_l := hb0.lt
  obtain ⟨hb1_0, hb1_1⟩ := hb1.cells2
  have hb1_l := hb1.lt
  go_enter Try.func4, Try.ntmps4
  go_wp2_with fail
  refine (szCrew_any A0 n0 c0 A1 n1 c1 k0 (1048576) _ (by omega) (by omega) (by omega) (by omega)).mono ?_
  rintro e v1 ⟨rfl, hb⟩
  rw [crewLeft_ok (by omega)]
  have hz1 : w.heap.size + 1 + 1 ≤ v1.heap.size := by have := hb.size; simpa using this
  replace ht := below_then ht hb ht.size
  replace hb0 := hb0.below hb
  replace hb1 := hb1.below hb
  clear hb
  clear hb0_0 hb0_1 hb0_2 hb0_l hb1_0 hb1_1 hb1_l
  obtain ⟨hb0_0, hb0_1, hb0_2⟩ := hb0.cells3
  have hb0_l := hb0.lt
  obtain ⟨hb1_0, hb1_1⟩ := hb1.cells2
  have hb1_l := hb1.lt
  go_wp2_with fail
  refine (szState_any A2 n2 c2 t0 (1048576 - (n0 : Int) - (n1 : Int)) _ (by omega) (by omega) (by omega)).mono ?_
  rintro e v2 ⟨rfl, hb⟩
  rw [if_pos (by omega)]
  have hz2 : v1.heap.size ≤ v2.heap.size := by have := hb.size; simpa using this
  replace ht := below_then ht hb ht.size
  replace hb0 := hb0.below hb
  replace hb1 := hb1.below hb
  clear hb
  clear hb0_0 hb0_1 hb0_2 hb0_l hb1_0 hb1_1 hb1_l
  go_wp2
  go_ret
  exact ⟨rfl, ht⟩

set_option maxHeartbeats 12800000 in
set_option maxRecDepth 100000 in
set_option linter.unusedSimpArgs false in
set_option linter.unusedVariables false in
theorem lawRidesOfCrew_small (A0 : Option Addr) (n0 c0 : Nat) (x0 : List Int) (A1 : Option Addr) (n1 c1 : Nat) (x1 : List Bool) (k0 : Int) (A2 : Option Addr) (n2 c2 : Nat) (x2 : List Bool) (t0 : Bool) (w : World) (h0 : Holds w A0 (nums x0)) (hx0 : x0.length = n0) (hn0 : n0 ≤ 9223372036854775807) (h1 : Holds w A1 (bits x1)) (hx1 : x1.length = n1) (hn1 : n1 ≤ 9223372036854775807) (h2 : Holds w A2 (bits x2)) (hx2 : x2.length = n2) (hn2 : n2 ≤ 9223372036854775807) (g0 : 0 ≤ 1048576 - (n0 : Int) - (n1 : Int)) (g1 : 0 ≤ 1048576 - (n0 : Int) - (n1 : Int) - (n2 : Int)) :
    Calls Try.prog 4 #[.agg #[.slice A0 n0 c0, .slice A1 n1 c1, .int .i64 k0], .agg #[.slice A2 n2 c2, .bool t0]] w fun e w' => e = .returned (.bool true) ∧ Below w.heap.size w w' := by
  have hb0 := ((Whole.fresh w 32 #[.slice A0 n0 c0, .slice A1 n1 c1, .int .i64 k0]).alloc (.cells #[.slice A2 n2 c2, .bool t0] 27))
  have hb1 := (Whole.fresh (w.alloc (.cells #[.slice A0 n0 c0, .slice A1 n1 c1, .int .i64 k0] 32)) 27 #[.slice A2 n2 c2, .bool t0])
  simp only [World.size_alloc] at hb1
  have ht := below2 w (.cells #[.slice A0 n0 c0, .slice A1 n1 c1, .int .i64 k0] 32) (.cells #[.slice A2 n2 c2, .bool t0] 27)
  have HX0 := Lib.hid hx0
  have HX1 := Lib.hid hx1
  have HX2 := Lib.hid hx2
  clear hx0 hx1 hx2
  have hlen : (ridesLs x0 x1 n1 k0 x2 t0).length ≤ 1048576 ∧ ((ridesLs x0 x1 n1 k0 x2 t0).map List.length).sum ≤ 1048576 := (rides_le (n := n0))
  obtain ⟨hb0_0, hb0_1, hb0_2⟩ := hb0.cells3
  have hb0_l := hb0.lt
  obtain ⟨hb1_0, hb1_1⟩ := hb1.cells2
  have hb1_l := hb1.lt
  go_enter Try.func4, Try.ntmps4
  -- region 2
  go_wp2_with fail
  refine (szCrew_any A0 n0 c0 A1 n1 c1 k0 (1048576) _ (by omega) (by omega) (by omega) (by omega)).mono ?_
  rintro e v1 ⟨rfl, hb⟩
  rw [crewLeft_ok (by omega)]
  have hz1 : w.heap.size + 1 + 1 ≤ v1.heap.size := by have := hb.size; simpa using this
  replace ht := below_then ht hb ht.size
  replace hb0 := hb0.below hb
  replace hb1 := hb1.below hb
  clear hb
  clear hb0_0 hb0_1 hb0_2 hb0_l hb1_0 hb1_1 hb1_l
  obtain ⟨hb0_0, hb0_1, hb0_2⟩ := hb0.cells3
  have hb0_l := hb0.lt
  obtain ⟨hb1_0, hb1_1⟩ := hb1.cells2
  have hb1_l := hb1.lt
  -- region 5
  go_wp2_with fail
  refine (szState_any A2 n2 c2 t0 (1048576 - (n0 : Int) - (n1 : Int)) _ (by omega) (by omega) (by omega)).mono ?_
  rintro e v2 ⟨rfl, hb⟩
  rw [if_neg (by omega)]
  have hz2 : v1.heap.size ≤ v2.heap.size := by have := hb.size; simpa using this
  replace ht := below_then ht hb ht.size
  replace hb0 := hb0.below hb
  replace hb1 := hb1.below hb
  clear hb
  clear hb0_0 hb0_1 hb0_2 hb0_l hb1_0 hb1_1 hb1_l
  obtain ⟨hb0_0, hb0_1, hb0_2⟩ := hb0.cells3
  have hb0_l := hb0.lt
  obtain ⟨hb1_0, hb1_1⟩ := hb1.cells2
  have hb1_l := hb1.lt
  -- region 8
  clear hb0_0 hb0_1 hb0_2 hb0_l hb1_0 hb1_1 hb1_l
  go_wp2_with fail
  refine wp_region_held_drew (S := (fun w' => w'.cell? ⟨w.heap.size, 0, none⟩ = some (.slice A0 n0 c0) ∧ w'.cell? ⟨w.heap.size, 1, none⟩ = some (.slice A1 n1 c1) ∧ w'.cell? ⟨w.heap.size, 2, none⟩ = some (.int .i64 k0) ∧ w'.cell? ⟨w.heap.size + 1, 0, none⟩ = some (.slice A2 n2 c2) ∧ w'.cell? ⟨w.heap.size + 1, 1, none⟩ = some (.bool t0))) (by kernel_rfl) ⟨hb0.drew.cell 0, hb0.drew.cell 1, hb0.drew.cell 2, hb1.drew.cell 0, hb1.drew.cell 1⟩ (fun hHeld => ?_)
  replace ht := ht.drew
  replace hb0 := hb0.drew
  replace hb1 := hb1.drew
  refine wpAnyH_take (i := 0) (v := ?_) rfl (by kernel_rfl) (by kernel_rfl) (by kernel_rfl) (fun _ _ _ h => h) (Or.inl ⟨rfl, ?_⟩) hHeld ?_
  rotate_left
  · intro w' hS; obtain ⟨s0, s1, s2, s3, s4⟩ := hS; go_simp <;> with_reducible rfl
  simp only [Act.put, List.getElem_toArray, List.getElem_cons_succ, List.getElem_cons_zero, List.setIfInBounds_toArray, List.set_cons_succ, List.set_cons_zero]
  refine wpAnyH_take (i := 2) (v := ?_) rfl (by kernel_rfl) (by kernel_rfl) (by kernel_rfl) (fun _ _ _ h => h) (Or.inl ⟨rfl, ?_⟩) hHeld ?_
  rotate_left
  · intro w' hS; obtain ⟨s0, s1, s2, s3, s4⟩ := hS; go_simp <;> with_reducible rfl
  simp only [Act.put, List.getElem_toArray, List.getElem_cons_succ, List.getElem_cons_zero, List.setIfInBounds_toArray, List.set_cons_succ, List.set_cons_zero]
  refine wpAnyH_ready (rs := [1]) (by kernel_rfl) (by simp) (AllReadyH.cons rfl (fun K hK => ?_) AllReadyH.nil)
  go_simp
  refine (toCrew_own A0 n0 c0 x0 A1 n1 c1 x1 k0 _ (by exact h0.below ht) (by exact h1.below ht) HX0.out HX1.out (by omega) (by omega)).mono ?_
  rintro e v3 ⟨gp0, gp1, rfl, hgp0, hwp0, hgp1, hwp1, hb⟩
  have hz3 : v2.heap.size ≤ v3.heap.size := by have := hb.size; simpa using this
  replace ht := below_then ht hb ht.size
  replace hb0 := hb0.below hb
  replace hb1 := hb1.below hb
  have hgmp0 : v2.heap.size ≤ gp1 ∧ gp1 < v3.heap.size := ⟨by have := hgp0; (try simp at this); omega, hwp1.lt⟩
  have hp0 := Fresh.of_whole (lo := v2.heap.size) (hi := gp1) hwp0 (by simpa using hgp0) hgp1
  have hp1 := Fresh.of_whole (lo := gp1) (hi := v3.heap.size) hwp1 (Nat.le_refl _) hwp1.lt
  clear hgp0 hwp0 hgp1 hwp1
  clear hb
  refine hK.out _ _ ⟨hb0.cell 0, hb0.cell 1, hb0.cell 2, hb1.cell 0, hb1.cell 1⟩ (fun hHeld => ?_)
  clear hK K
  try simp only [Act.put, List.getElem_toArray, List.getElem_cons_succ, List.getElem_cons_zero, List.setIfInBounds_toArray, List.set_cons_succ, List.set_cons_zero]
  refine wpAnyH_ready (rs := [3]) (by kernel_rfl) (by simp) (AllReadyH.cons rfl (fun K hK => ?_) AllReadyH.nil)
  go_simp
  refine (toState_own A2 n2 c2 x2 t0 _ (by exact h2.below ht) HX2.out (by omega)).mono ?_
  rintro e v4 ⟨gp2, rfl, hgp2, hwp2, hb⟩
  have hz4 : v3.heap.size ≤ v4.heap.size := by have := hb.size; simpa using this
  replace ht := below_then ht hb ht.size
  replace hb0 := hb0.below hb
  replace hb1 := hb1.below hb
  replace hp0 := hp0.below hb
  replace hp1 := hp1.below hb
  have hp2 := Fresh.of_whole (lo := v3.heap.size) (hi := v4.heap.size) hwp2 (by simpa using hgp2) hwp2.lt
  clear hgp2 hwp2
  clear hb
  refine hK.out _ _ ⟨hb0.cell 0, hb0.cell 1, hb0.cell 2, hb1.cell 0, hb1.cell 1⟩ (fun hHeld => ?_)
  clear hK K
  try simp only [Act.put, List.getElem_toArray, List.getElem_cons_succ, List.getElem_cons_zero, List.setIfInBounds_toArray, List.set_cons_succ, List.set_cons_zero]
  refine wpAnyH_ready (rs := [4]) (by kernel_rfl) (by simp) (AllReadyH.cons rfl (fun K hK => ?_) AllReadyH.nil)
  go_simp
  refine (specRidesOfCrew_any _ n0 _ _ n1 _ x0 x1 k0 _ n2 _ x2 t0 _ (by exact hp0.holds) (by exact hp1.holds) (by exact hp2.holds) HX0.out HX1.out HX2.out (by omega) (by omega)).mono ?_
  rintro e v5 ⟨B0, m0, q0, rs0, rfl, he0, hl0, hF0, hb⟩
  have hz5 : v4.heap.size ≤ v5.heap.size := by have := hb.size; simpa using this
  replace ht := below_then ht hb ht.size
  replace hb0 := hb0.below hb
  replace hb1 := hb1.below hb
  replace hp0 := hp0.below hb
  replace hp1 := hp1.below hb
  replace hp2 := hp2.below hb
  have HER0 := Lib.hid he0
  have HLR0 := Lib.hid hl0
  have hnr0 : m0 ≤ 1048576 := by have h1 := hl0; have h2 := congrArg List.length he0; rw [rowNums_len] at h2; have h3 := hlen.1; omega
  clear he0 hl0
  replace hF0 := hF0.more (lo' := v4.heap.size) (hi' := v5.heap.size) (by simp) (Nat.le_refl _)
  clear hb
  clear hp0 hp1 hp2
  refine hK.out _ _ ⟨hb0.cell 0, hb0.cell 1, hb0.cell 2, hb1.cell 0, hb1.cell 1⟩ (fun hHeld => ?_)
  clear hK K
  try simp only [Act.put, List.getElem_toArray, List.getElem_cons_succ, List.getElem_cons_zero, List.setIfInBounds_toArray, List.set_cons_succ, List.set_cons_zero]
  refine wpAnyH_take (i := 5) (v := ?_) rfl (by kernel_rfl) (by kernel_rfl) (by kernel_rfl) (fun _ _ _ h => h) (Or.inl ⟨rfl, ?_⟩) hHeld ?_
  rotate_left
  · intro w' hS; obtain ⟨s0, s1, s2, s3, s4⟩ := hS; go_simp <;> with_reducible rfl
  simp only [Act.put, List.getElem_toArray, List.getElem_cons_succ, List.getElem_cons_zero, List.setIfInBounds_toArray, List.set_cons_succ, List.set_cons_zero]
  refine wpAnyH_take (i := 6) (v := ?_) rfl (by kernel_rfl) (by kernel_rfl) (by kernel_rfl) (fun _ _ _ h => h) (Or.inl ⟨rfl, ?_⟩) hHeld ?_
  rotate_left
  · intro w' hS; obtain ⟨s0, s1, s2, s3, s4⟩ := hS; go_simp <;> with_reducible rfl
  simp only [Act.put, List.getElem_toArray, List.getElem_cons_succ, List.getElem_cons_zero, List.setIfInBounds_toArray, List.set_cons_succ, List.set_cons_zero]
  refine wpAnyH_take (i := 7) (v := ?_) rfl (by kernel_rfl) (by kernel_rfl) (by kernel_rfl) (fun _ _ _ h => h) (Or.inl ⟨rfl, ?_⟩) hHeld ?_
  rotate_left
  · intro w' hS; obtain ⟨s0, s1, s2, s3, s4⟩ := hS; go_simp <;> with_reducible rfl
  simp only [Act.put, List.getElem_toArray, List.getElem_cons_succ, List.getElem_cons_zero, List.setIfInBounds_toArray, List.set_cons_succ, List.set_cons_zero]
  refine wpAnyH_take (i := 8) (v := ?_) rfl (by kernel_rfl) (by kernel_rfl) (by kernel_rfl) (fun _ _ _ h => h) (Or.inl ⟨rfl, ?_⟩) hHeld ?_
  rotate_left
  · intro w' hS; obtain ⟨s0, s1, s2, s3, s4⟩ := hS; go_simp <;> with_reducible rfl
  simp only [Act.put, List.getElem_toArray, List.getElem_cons_succ, List.getElem_cons_zero, List.setIfInBounds_toArray, List.set_cons_succ, List.set_cons_zero]
  refine wpAnyH_take (i := 9) (v := ?_) rfl (by kernel_rfl) (by kernel_rfl) (by kernel_rfl) (fun _ _ _ h => h) (Or.inl ⟨rfl, ?_⟩) hHeld ?_
  rotate_left
  · intro w' hS; obtain ⟨s0, s1, s2, s3, s4⟩ := hS; go_simp <;> with_reducible rfl
  simp only [Act.put, List.getElem_toArray, List.getElem_cons_succ, List.getElem_cons_zero, List.setIfInBounds_toArray, List.set_cons_succ, List.set_cons_zero]
  refine wpAnyH_done (by kernel_rfl) ?_ _
  clear hHeld
  obtain ⟨hb0_0, hb0_1, hb0_2⟩ := hb0.cells3
  have hb0_l := hb0.lt
  obtain ⟨hb1_0, hb1_1⟩ := hb1.cells2
  have hb1_l := hb1.lt
  -- region 9
  go_wp2_with fail
  refine (toCrew_own A0 n0 c0 x0 A1 n1 c1 x1 k0 _ (by exact h0.below ht) (by exact h1.below ht) HX0.out HX1.out (by omega) (by omega)).mono ?_
  rintro e v6 ⟨gx0, gx1, rfl, hgx0, hwx0, hgx1, hwx1, hb⟩
  have hz6 : v5.heap.size ≤ v6.heap.size := by have := hb.size; simpa using this
  replace ht := below_then ht hb ht.size
  replace hb0 := hb0.below hb
  replace hb1 := hb1.below hb
  replace hF0 := hF0.below hb
  have hgmx0 : v5.heap.size ≤ gx1 ∧ gx1 < v6.heap.size := ⟨by have := hgx0; (try simp at this); omega, hwx1.lt⟩
  have hx0 := Fresh.of_whole (lo := v5.heap.size) (hi := gx1) hwx0 (by simpa using hgx0) hgx1
  have hx1 := Fresh.of_whole (lo := gx1) (hi := v6.heap.size) hwx1 (Nat.le_refl _) hwx1.lt
  clear hgx0 hwx0 hgx1 hwx1
  clear hb
  have hx90 := Whole.fresh v6 40 #[.slice (some ⟨gx0, 0, none⟩) n0 n0, .slice (some ⟨gx1, 0, none⟩) n1 n1, .int .i64 k0]
  replace ht := ht.alloc ht.size (.cells #[.slice (some ⟨gx0, 0, none⟩) n0 n0, .slice (some ⟨gx1, 0, none⟩) n1 n1, .int .i64 k0] 40)
  replace hb0 := hb0.alloc (.cells #[.slice (some ⟨gx0, 0, none⟩) n0 n0, .slice (some ⟨gx1, 0, none⟩) n1 n1, .int .i64 k0] 40)
  replace hb1 := hb1.alloc (.cells #[.slice (some ⟨gx0, 0, none⟩) n0 n0, .slice (some ⟨gx1, 0, none⟩) n1 n1, .int .i64 k0] 40)
  replace hF0 := hF0.alloc (.cells #[.slice (some ⟨gx0, 0, none⟩) n0 n0, .slice (some ⟨gx1, 0, none⟩) n1 n1, .int .i64 k0] 40)
  replace hx0 := hx0.alloc (.cells #[.slice (some ⟨gx0, 0, none⟩) n0 n0, .slice (some ⟨gx1, 0, none⟩) n1 n1, .int .i64 k0] 40)
  replace hx1 := hx1.alloc (.cells #[.slice (some ⟨gx0, 0, none⟩) n0 n0, .slice (some ⟨gx1, 0, none⟩) n1 n1, .int .i64 k0] 40)
  clear hb0_0 hb0_1 hb0_2 hb0_l hb1_0 hb1_1 hb1_l
  obtain ⟨hb0_0, hb0_1, hb0_2⟩ := hb0.cells3
  have hb0_l := hb0.lt
  obtain ⟨hb1_0, hb1_1⟩ := hb1.cells2
  have hb1_l := hb1.lt
  obtain ⟨hx90_0, hx90_1, hx90_2⟩ := hx90.cells3
  have hx90_l := hx90.lt
  -- region 10
  go_wp2_with fail
  refine (toState_own A2 n2 c2 x2 t0 _ (by exact h2.below ht) HX2.out (by omega)).mono ?_
  rintro e v7 ⟨gx2, rfl, hgx2, hwx2, hb⟩
  have hz7 : v6.heap.size + 1 ≤ v7.heap.size := by have := hb.size; simpa using this
  replace ht := below_then ht hb ht.size
  replace hb0 := hb0.below hb
  replace hb1 := hb1.below hb
  replace hF0 := hF0.below hb
  replace hx0 := hx0.below hb
  replace hx1 := hx1.below hb
  replace hx90 := hx90.below hb
  have hx2 := Fresh.of_whole (lo := v6.heap.size + 1) (hi := v7.heap.size) hwx2 (by simpa using hgx2) hwx2.lt
  clear hgx2 hwx2
  clear hb
  have hx91 := Whole.fresh v7 38 #[.slice (some ⟨gx2, 0, none⟩) n2 n2, .bool t0]
  replace ht := ht.alloc ht.size (.cells #[.slice (some ⟨gx2, 0, none⟩) n2 n2, .bool t0] 38)
  replace hb0 := hb0.alloc (.cells #[.slice (some ⟨gx2, 0, none⟩) n2 n2, .bool t0] 38)
  replace hb1 := hb1.alloc (.cells #[.slice (some ⟨gx2, 0, none⟩) n2 n2, .bool t0] 38)
  replace hF0 := hF0.alloc (.cells #[.slice (some ⟨gx2, 0, none⟩) n2 n2, .bool t0] 38)
  replace hx0 := hx0.alloc (.cells #[.slice (some ⟨gx2, 0, none⟩) n2 n2, .bool t0] 38)
  replace hx1 := hx1.alloc (.cells #[.slice (some ⟨gx2, 0, none⟩) n2 n2, .bool t0] 38)
  replace hx90 := hx90.alloc (.cells #[.slice (some ⟨gx2, 0, none⟩) n2 n2, .bool t0] 38)
  replace hx2 := hx2.alloc (.cells #[.slice (some ⟨gx2, 0, none⟩) n2 n2, .bool t0] 38)
  clear hb0_0 hb0_1 hb0_2 hb0_l hb1_0 hb1_1 hb1_l hx90_0 hx90_1 hx90_2 hx90_l
  obtain ⟨hb0_0, hb0_1, hb0_2⟩ := hb0.cells3
  have hb0_l := hb0.lt
  obtain ⟨hb1_0, hb1_1⟩ := hb1.cells2
  have hb1_l := hb1.lt
  obtain ⟨hx90_0, hx90_1, hx90_2⟩ := hx90.cells3
  have hx90_l := hx90.lt
  obtain ⟨hx91_0, hx91_1⟩ := hx91.cells2
  have hx91_l := hx91.lt
  -- region 11
  go_wp2_with fail
  refine (implRidesOfCrew_any _ n0 _ n1 _ x0 x1 k0 _ n2 _ x2 t0 _ (by exact hx0.holds) (by exact hx1.holds) (by exact hx2.holds) HX0.out HX1.out HX2.out (by omega) (by omega)).mono ?_
  rintro e v8 ⟨B1, m1, q1, rs1, rfl, he1, hl1, hF1, hb⟩
  have hz8 : v7.heap.size + 1 ≤ v8.heap.size := by have := hb.size; simpa using this
  replace ht := below_then ht hb ht.size
  replace hb0 := hb0.below hb
  replace hb1 := hb1.below hb
  replace hF0 := hF0.below hb
  replace hx0 := hx0.below hb
  replace hx1 := hx1.below hb
  replace hx90 := hx90.below hb
  replace hx2 := hx2.below hb
  replace hx91 := hx91.below hb
  have HER1 := Lib.hid he1
  have HLR1 := Lib.hid hl1
  have hnr1 : m1 ≤ 1048576 := by have h1 := hl1; have h2 := congrArg List.length he1; rw [rowNums_len] at h2; have h3 := hlen.1; omega
  clear he1 hl1
  replace hF1 := hF1.more (lo' := v7.heap.size + 1) (hi' := v8.heap.size) (by simp) (Nat.le_refl _)
  clear hb
  clear hb0_0 hb0_1 hb0_2 hb0_l hb1_0 hb1_1 hb1_l hx90_0 hx90_1 hx90_2 hx90_l hx91_0 hx91_1 hx91_l
  obtain ⟨hb0_0, hb0_1, hb0_2⟩ := hb0.cells3
  have hb0_l := hb0.lt
  obtain ⟨hb1_0, hb1_1⟩ := hb1.cells2
  have hb1_l := hb1.lt
  obtain ⟨hx90_0, hx90_1, hx90_2⟩ := hx90.cells3
  have hx90_l := hx90.lt
  obtain ⟨hx91_0, hx91_1⟩ := hx91.cells2
  have hx91_l := hx91.lt
  -- region 12
  go_wp2_with fail
  refine (eqIntSS_yes B1 B0 m1 m0 q1 q0 rs1 rs0 _ (by exact hF1.grid) (by exact hF0.grid) (by rw [HER1.out, HER0.out]) HLR1.out HLR0.out (by omega)).mono ?_
  rintro e v9 ⟨rfl, hb⟩
  have hz9 : v8.heap.size ≤ v9.heap.size := by have := hb.size; simpa using this
  replace ht := below_then ht hb ht.size
  replace hb0 := hb0.below hb
  replace hb1 := hb1.below hb
  replace hF0 := hF0.below hb
  replace hx0 := hx0.below hb
  replace hx1 := hx1.below hb
  replace hx90 := hx90.below hb
  replace hx2 := hx2.below hb
  replace hx91 := hx91.below hb
  replace hF1 := hF1.below hb
  clear hb
  clear hb0_0 hb0_1 hb0_2 hb0_l hb1_0 hb1_1 hb1_l hx90_0 hx90_1 hx90_2 hx90_l hx91_0 hx91_1 hx91_l
  obtain ⟨hb0_0, hb0_1, hb0_2⟩ := hb0.cells3
  have hb0_l := hb0.lt
  obtain ⟨hb1_0, hb1_1⟩ := hb1.cells2
  have hb1_l := hb1.lt
  obtain ⟨hx90_0, hx90_1, hx90_2⟩ := hx90.cells3
  have hx90_l := hx90.lt
  obtain ⟨hx91_0, hx91_1⟩ := hx91.cells2
  have hx91_l := hx91.lt
  -- region 14
  clear hb0_0 hb0_1 hb0_2 hb0_l hb1_0 hb1_1 hb1_l hx90_0 hx90_1 hx90_2 hx90_l hx91_0 hx91_1 hx91_l
  go_wp2_with fail
  refine wp_region_held_drew (S := (fun w' => w'.cell? ⟨w.heap.size, 0, none⟩ = some (.slice A0 n0 c0) ∧ w'.cell? ⟨w.heap.size, 1, none⟩ = some (.slice A1 n1 c1) ∧ w'.cell? ⟨w.heap.size, 2, none⟩ = some (.int .i64 k0) ∧ w'.cell? ⟨w.heap.size + 1, 0, none⟩ = some (.slice A2 n2 c2) ∧ w'.cell? ⟨w.heap.size + 1, 1, none⟩ = some (.bool t0) ∧ w'.cell? ⟨v6.heap.size, 0, none⟩ = some (.slice (some ⟨gx0, 0, none⟩) n0 n0) ∧ w'.cell? ⟨v6.heap.size, 1, none⟩ = some (.slice (some ⟨gx1, 0, none⟩) n1 n1) ∧ w'.cell? ⟨v6.heap.size, 2, none⟩ = some (.int .i64 k0) ∧ w'.cell? ⟨v7.heap.size, 0, none⟩ = some (.slice (some ⟨gx2, 0, none⟩) n2 n2) ∧ w'.cell? ⟨v7.heap.size, 1, none⟩ = some (.bool t0))) (by kernel_rfl) ⟨hb0.drew.cell 0, hb0.drew.cell 1, hb0.drew.cell 2, hb1.drew.cell 0, hb1.drew.cell 1, hx90.drew.cell 0, hx90.drew.cell 1, hx90.drew.cell 2, hx91.drew.cell 0, hx91.drew.cell 1⟩ (fun hHeld => ?_)
  replace ht := ht.drew
  replace hb0 := hb0.drew
  replace hb1 := hb1.drew
  replace hF0 := hF0.drew
  replace hx0 := hx0.drew
  replace hx1 := hx1.drew
  replace hx90 := hx90.drew
  replace hx2 := hx2.drew
  replace hx91 := hx91.drew
  replace hF1 := hF1.drew
  refine wpAnyH_take (i := 0) (v := ?_) rfl (by kernel_rfl) (by kernel_rfl) (by kernel_rfl) (fun _ _ _ h => h) (Or.inl ⟨rfl, ?_⟩) hHeld ?_
  rotate_left
  · intro w' hS; obtain ⟨s0, s1, s2, s3, s4, s5, s6, s7, s8, s9⟩ := hS; go_simp <;> with_reducible rfl
  simp only [Act.put, List.getElem_toArray, List.getElem_cons_succ, List.getElem_cons_zero, List.setIfInBounds_toArray, List.set_cons_succ, List.set_cons_zero]
  refine wpAnyH_take (i := 1) (v := ?_) rfl (by kernel_rfl) (by kernel_rfl) (by kernel_rfl) (fun _ _ _ h => h) (Or.inl ⟨rfl, ?_⟩) hHeld ?_
  rotate_left
  · intro w' hS; obtain ⟨s0, s1, s2, s3, s4, s5, s6, s7, s8, s9⟩ := hS; go_simp <;> with_reducible rfl
  simp only [Act.put, List.getElem_toArray, List.getElem_cons_succ, List.getElem_cons_zero, List.setIfInBounds_toArray, List.set_cons_succ, List.set_cons_zero]
  refine wpAnyH_ready (rs := [2]) (by kernel_rfl) (by simp) (AllReadyH.cons rfl (fun K hK => ?_) AllReadyH.nil)
  go_simp
  refine (toCrew_own A0 n0 c0 x0 A1 n1 c1 x1 k0 _ (by exact h0.below ht) (by exact h1.below ht) HX0.out HX1.out (by omega) (by omega)).mono ?_
  rintro e v10 ⟨gy0, gy1, rfl, hgy0, hwy0, hgy1, hwy1, hb⟩
  have hz10 : v9.heap.size ≤ v10.heap.size := by have := hb.size; simpa using this
  replace ht := below_then ht hb ht.size
  replace hb0 := hb0.below hb
  replace hb1 := hb1.below hb
  replace hF0 := hF0.below hb
  replace hx0 := hx0.below hb
  replace hx1 := hx1.below hb
  replace hx90 := hx90.below hb
  replace hx2 := hx2.below hb
  replace hx91 := hx91.below hb
  replace hF1 := hF1.below hb
  have hgmy0 : v9.heap.size ≤ gy1 ∧ gy1 < v10.heap.size := ⟨by have := hgy0; (try simp at this); omega, hwy1.lt⟩
  have hy0 := Fresh.of_whole (lo := v9.heap.size) (hi := gy1) hwy0 (by simpa using hgy0) hgy1
  have hy1 := Fresh.of_whole (lo := gy1) (hi := v10.heap.size) hwy1 (Nat.le_refl _) hwy1.lt
  clear hgy0 hwy0 hgy1 hwy1
  clear hb
  refine hK.out _ _ ⟨hb0.cell 0, hb0.cell 1, hb0.cell 2, hb1.cell 0, hb1.cell 1, hx90.cell 0, hx90.cell 1, hx90.cell 2, hx91.cell 0, hx91.cell 1⟩ (fun hHeld => ?_)
  clear hK K
  try simp only [Act.put, List.getElem_toArray, List.getElem_cons_succ, List.getElem_cons_zero, List.setIfInBounds_toArray, List.set_cons_succ, List.set_cons_zero]
  refine wpAnyH_ready (rs := [3]) (by kernel_rfl) (by simp) (AllReadyH.cons rfl (fun K hK => ?_) AllReadyH.nil)
  go_simp
  refine (eqCrew_yes _ _ n0 _ _ x0 _ _ n1 _ _ x1 k0 _ (by exact hx0.holds) (by exact hy0.holds) (by exact hx1.holds) (by exact hy1.holds) HX0.out HX1.out (by omega) (by omega)).mono ?_
  rintro e v11 ⟨rfl, hb⟩
  have hz11 : v10.heap.size ≤ v11.heap.size := by have := hb.size; simpa using this
  replace ht := below_then ht hb ht.size
  replace hb0 := hb0.below hb
  replace hb1 := hb1.below hb
  replace hF0 := hF0.below hb
  replace hx0 := hx0.below hb
  replace hx1 := hx1.below hb
  replace hx90 := hx90.below hb
  replace hx2 := hx2.below hb
  replace hx91 := hx91.below hb
  replace hF1 := hF1.below hb
  replace hy0 := hy0.below hb
  replace hy1 := hy1.below hb
  clear hb
  clear hy0 hy1
  refine hK.out _ _ ⟨hb0.cell 0, hb0.cell 1, hb0.cell 2, hb1.cell 0, hb1.cell 1, hx90.cell 0, hx90.cell 1, hx90.cell 2, hx91.cell 0, hx91.cell 1⟩ (fun hHeld => ?_)
  clear hK K
  try simp only [Act.put, List.getElem_toArray, List.getElem_cons_succ, List.getElem_cons_zero, List.setIfInBounds_toArray, List.set_cons_succ, List.set_cons_zero]
  refine wpAnyH_take (i := 4) (v := ?_) rfl (by kernel_rfl) (by kernel_rfl) (by kernel_rfl) (fun _ _ _ h => h) (Or.inl ⟨rfl, ?_⟩) hHeld ?_
  rotate_left
  · intro w' hS; obtain ⟨s0, s1, s2, s3, s4, s5, s6, s7, s8, s9⟩ := hS; go_simp <;> with_reducible rfl
  simp only [Act.put, List.getElem_toArray, List.getElem_cons_succ, List.getElem_cons_zero, List.setIfInBounds_toArray, List.set_cons_succ, List.set_cons_zero]
  refine wpAnyH_done (by kernel_rfl) ?_ _
  clear hHeld
  obtain ⟨hb0_0, hb0_1, hb0_2⟩ := hb0.cells3
  have hb0_l := hb0.lt
  obtain ⟨hb1_0, hb1_1⟩ := hb1.cells2
  have hb1_l := hb1.lt
  obtain ⟨hx90_0, hx90_1, hx90_2⟩ := hx90.cells3
  have hx90_l := hx90.lt
  obtain ⟨hx91_0, hx91_1⟩ := hx91.cells2
  have hx91_l := hx91.lt
  -- region 16
  clear hb0_0 hb0_1 hb0_2 hb0_l hb1_0 hb1_1 hb1_l hx90_0 hx90_1 hx90_2 hx90_l hx91_0 hx91_1 hx91_l
  go_wp2_with fail
  refine wp_region_held_drew (S := (fun w' => w'.cell? ⟨w.heap.size, 0, none⟩ = some (.slice A0 n0 c0) ∧ w'.cell? ⟨w.heap.size, 1, none⟩ = some (.slice A1 n1 c1) ∧ w'.cell? ⟨w.heap.size, 2, none⟩ = some (.int .i64 k0) ∧ w'.cell? ⟨w.heap.size + 1, 0, none⟩ = some (.slice A2 n2 c2) ∧ w'.cell? ⟨w.heap.size + 1, 1, none⟩ = some (.bool t0) ∧ w'.cell? ⟨v6.heap.size, 0, none⟩ = some (.slice (some ⟨gx0, 0, none⟩) n0 n0) ∧ w'.cell? ⟨v6.heap.size, 1, none⟩ = some (.slice (some ⟨gx1, 0, none⟩) n1 n1) ∧ w'.cell? ⟨v6.heap.size, 2, none⟩ = some (.int .i64 k0) ∧ w'.cell? ⟨v7.heap.size, 0, none⟩ = some (.slice (some ⟨gx2, 0, none⟩) n2 n2) ∧ w'.cell? ⟨v7.heap.size, 1, none⟩ = some (.bool t0))) (by kernel_rfl) ⟨hb0.drew.cell 0, hb0.drew.cell 1, hb0.drew.cell 2, hb1.drew.cell 0, hb1.drew.cell 1, hx90.drew.cell 0, hx90.drew.cell 1, hx90.drew.cell 2, hx91.drew.cell 0, hx91.drew.cell 1⟩ (fun hHeld => ?_)
  replace ht := ht.drew
  replace hb0 := hb0.drew
  replace hb1 := hb1.drew
  replace hF0 := hF0.drew
  replace hx0 := hx0.drew
  replace hx1 := hx1.drew
  replace hx90 := hx90.drew
  replace hx2 := hx2.drew
  replace hx91 := hx91.drew
  replace hF1 := hF1.drew
  refine wpAnyH_take (i := 0) (v := ?_) rfl (by kernel_rfl) (by kernel_rfl) (by kernel_rfl) (fun _ _ _ h => h) (Or.inl ⟨rfl, ?_⟩) hHeld ?_
  rotate_left
  · intro w' hS; obtain ⟨s0, s1, s2, s3, s4, s5, s6, s7, s8, s9⟩ := hS; go_simp <;> with_reducible rfl
  simp only [Act.put, List.getElem_toArray, List.getElem_cons_succ, List.getElem_cons_zero, List.setIfInBounds_toArray, List.set_cons_succ, List.set_cons_zero]
  refine wpAnyH_take (i := 1) (v := ?_) rfl (by kernel_rfl) (by kernel_rfl) (by kernel_rfl) (fun _ _ _ h => h) (Or.inl ⟨rfl, ?_⟩) hHeld ?_
  rotate_left
  · intro w' hS; obtain ⟨s0, s1, s2, s3, s4, s5, s6, s7, s8, s9⟩ := hS; go_simp <;> with_reducible rfl
  simp only [Act.put, List.getElem_toArray, List.getElem_cons_succ, List.getElem_cons_zero, List.setIfInBounds_toArray, List.set_cons_succ, List.set_cons_zero]
  refine wpAnyH_ready (rs := [2]) (by kernel_rfl) (by simp) (AllReadyH.cons rfl (fun K hK => ?_) AllReadyH.nil)
  go_simp
  refine (toState_own A2 n2 c2 x2 t0 _ (by exact h2.below ht) HX2.out (by omega)).mono ?_
  rintro e v12 ⟨gy2, rfl, hgy2, hwy2, hb⟩
  have hz12 : v11.heap.size ≤ v12.heap.size := by have := hb.size; simpa using this
  replace ht := below_then ht hb ht.size
  replace hb0 := hb0.below hb
  replace hb1 := hb1.below hb
  replace hF0 := hF0.below hb
  replace hx0 := hx0.below hb
  replace hx1 := hx1.below hb
  replace hx90 := hx90.below hb
  replace hx2 := hx2.below hb
  replace hx91 := hx91.below hb
  replace hF1 := hF1.below hb
  have hy2 := Fresh.of_whole (lo := v11.heap.size) (hi := v12.heap.size) hwy2 (by simpa using hgy2) hwy2.lt
  clear hgy2 hwy2
  clear hb
  refine hK.out _ _ ⟨hb0.cell 0, hb0.cell 1, hb0.cell 2, hb1.cell 0, hb1.cell 1, hx90.cell 0, hx90.cell 1, hx90.cell 2, hx91.cell 0, hx91.cell 1⟩ (fun hHeld => ?_)
  clear hK K
  try simp only [Act.put, List.getElem_toArray, List.getElem_cons_succ, List.getElem_cons_zero, List.setIfInBounds_toArray, List.set_cons_succ, List.set_cons_zero]
  refine wpAnyH_ready (rs := [3]) (by kernel_rfl) (by simp) (AllReadyH.cons rfl (fun K hK => ?_) AllReadyH.nil)
  go_simp
  refine (eqState_yes _ _ n2 _ _ x2 t0 _ (by exact hx2.holds) (by exact hy2.holds) HX2.out (by omega)).mono ?_
  rintro e v13 ⟨rfl, hb⟩
  have hz13 : v12.heap.size ≤ v13.heap.size := by have := hb.size; simpa using this
  replace ht := below_then ht hb ht.size
  replace hb0 := hb0.below hb
  replace hb1 := hb1.below hb
  replace hF0 := hF0.below hb
  replace hx0 := hx0.below hb
  replace hx1 := hx1.below hb
  replace hx90 := hx90.below hb
  replace hx2 := hx2.below hb
  replace hx91 := hx91.below hb
  replace hF1 := hF1.below hb
  replace hy2 := hy2.below hb
  clear hb
  clear hy2
  refine hK.out _ _ ⟨hb0.cell 0, hb0.cell 1, hb0.cell 2, hb1.cell 0, hb1.cell 1, hx90.cell 0, hx90.cell 1, hx90.cell 2, hx91.cell 0, hx91.cell 1⟩ (fun hHeld => ?_)
  clear hK K
  try simp only [Act.put, List.getElem_toArray, List.getElem_cons_succ, List.getElem_cons_zero, List.setIfInBounds_toArray, List.set_cons_succ, List.set_cons_zero]
  refine wpAnyH_take (i := 4) (v := ?_) rfl (by kernel_rfl) (by kernel_rfl) (by kernel_rfl) (fun _ _ _ h => h) (Or.inl ⟨rfl, ?_⟩) hHeld ?_
  rotate_left
  · intro w' hS; obtain ⟨s0, s1, s2, s3, s4, s5, s6, s7, s8, s9⟩ := hS; go_simp <;> with_reducible rfl
  simp only [Act.put, List.getElem_toArray, List.getElem_cons_succ, List.getElem_cons_zero, List.setIfInBounds_toArray, List.set_cons_succ, List.set_cons_zero]
  refine wpAnyH_done (by kernel_rfl) ?_ _
  clear hHeld
  obtain ⟨hb0_0, hb0_1, hb0_2⟩ := hb0.cells3
  have hb0_l := hb0.lt
  obtain ⟨hb1_0, hb1_1⟩ := hb1.cells2
  have hb1_l := hb1.lt
  obtain ⟨hx90_0, hx90_1, hx90_2⟩ := hx90.cells3
  have hx90_l := hx90.lt
  obtain ⟨hx91_0, hx91_1⟩ := hx91.cells2
  have hx91_l := hx91.lt
  -- region 19
  go_wp2_with fail
  refine (markCrew_any (some ⟨gx0, 0, none⟩) n0 n0 _ _ _ _ (some ⟨gx1, 0, none⟩) n1 n1 _ k0 (1) _ hx0 hx1 (by rw [nums_len]; exact HX0.out) (by rw [bits_len]; exact HX1.out) (by omega) (by omega) (by omega) (by omega) (by omega) (by omega) (by omega)).mono ?_
  rintro e v14 ⟨rfl, hs, -⟩
  have hsz := ht.size
  replace ht := hs.below ht (by omega) hsz
  replace hb0 := hs.whole hb0 (by omega)
  replace hb1 := hs.whole hb1 (by omega)
  replace hF0 := hs.freeGrid hF0 (by omega)
  replace hx2 := hs.fresh hx2 (by omega)
  replace hx91 := hs.whole hx91 (by omega)
  replace hF1 := hs.freeGrid hF1 (by omega)
  clear hs hsz hx0 hx1 hx90
  have hk_1 : (0 : Int) ≤ 1 + (n0 : Int) + (n1 : Int) := by omega
  clear hb0_0 hb0_1 hb0_2 hb0_l hb1_0 hb1_1 hb1_l hx90_0 hx90_1 hx90_2 hx90_l hx91_0 hx91_1 hx91_l
  obtain ⟨hb0_0, hb0_1, hb0_2⟩ := hb0.cells3
  have hb0_l := hb0.lt
  obtain ⟨hb1_0, hb1_1⟩ := hb1.cells2
  have hb1_l := hb1.lt
  obtain ⟨hx91_0, hx91_1⟩ := hx91.cells2
  have hx91_l := hx91.lt
  -- region 20
  go_wp2_with fail
  refine (markState_any (some ⟨gx2, 0, none⟩) n2 n2 _ _ _ t0 (1 + (n0 : Int) + (n1 : Int)) _ hx2 (by rw [bits_len]; exact HX2.out) (by omega) (by omega) (by omega)).mono ?_
  rintro e v15 ⟨rfl, hs, -⟩
  have hsz := ht.size
  replace ht := hs.below ht (by omega) hsz
  replace hb0 := hs.whole hb0 (by omega)
  replace hb1 := hs.whole hb1 (by omega)
  replace hF0 := hs.freeGrid hF0 (by omega)
  replace hF1 := hs.freeGrid hF1 (by omega)
  clear hs hsz hx2 hx91
  have hk_2 : (0 : Int) ≤ 1 + (n0 : Int) + (n1 : Int) + (n2 : Int) := by omega
  clear hb0_0 hb0_1 hb0_2 hb0_l hb1_0 hb1_1 hb1_l hx91_0 hx91_1 hx91_l
  obtain ⟨hb0_0, hb0_1, hb0_2⟩ := hb0.cells3
  have hb0_l := hb0.lt
  obtain ⟨hb1_0, hb1_1⟩ := hb1.cells2
  have hb1_l := hb1.lt
  -- region 21
  go_wp2_with fail
  refine (eqIntSS_yes B1 B0 m1 m0 q1 q0 rs1 rs0 _ (by exact hF1.grid) (by exact hF0.grid) (by rw [HER1.out, HER0.out]) HLR1.out HLR0.out (by omega)).mono ?_
  rintro e v16 ⟨rfl, hb⟩
  have hz16 : v15.heap.size ≤ v16.heap.size := by have := hb.size; simpa using this
  replace ht := below_then ht hb ht.size
  replace hb0 := hb0.below hb
  replace hb1 := hb1.below hb
  replace hF0 := hF0.below hb
  replace hF1 := hF1.below hb
  clear hb
  clear hb0_0 hb0_1 hb0_2 hb0_l hb1_0 hb1_1 hb1_l
  obtain ⟨hb0_0, hb0_1, hb0_2⟩ := hb0.cells3
  have hb0_l := hb0.lt
  obtain ⟨hb1_0, hb1_1⟩ := hb1.cells2
  have hb1_l := hb1.lt
  -- region 24
  go_wp2_with fail
  have hprt : part rs1 rs1.length ≤ 1048576 := by have h1 := part_lens hF1.grid; have h2 := hlen.2; rw [HER1.out] at h1; omega
  refine (markIntSS_any B1 m1 q1 _ _ rs1 1 _ hF1 HLR1.out (by omega) (by omega) hnr1 hprt).mono ?_
  rintro e v17 ⟨rfl, hs, hM⟩
  have hsz := ht.size
  replace ht := hs.below ht (by omega) hsz
  replace hb0 := hs.whole hb0 (by omega)
  replace hb1 := hs.whole hb1 (by omega)
  replace hF0 := hs.freeGrid hF0 (by omega)
  clear hs hF1 hsz
  clear hb0_0 hb0_1 hb0_2 hb0_l hb1_0 hb1_1 hb1_l
  obtain ⟨hb0_0, hb0_1, hb0_2⟩ := hb0.cells3
  have hb0_l := hb0.lt
  obtain ⟨hb1_0, hb1_1⟩ := hb1.cells2
  have hb1_l := hb1.lt
  -- region 26
  go_wp2_with fail
  refine (heldIntSS_any B1 m1 q1 rs1 1 _ (by exact hM.grid) HLR1.out (by omega) (by omega) hnr1 hprt).mono ?_
  rintro e v18 ⟨rfl, hb⟩
  have hz18 : v17.heap.size ≤ v18.heap.size := by have := hb.size; simpa using this
  replace ht := below_then ht hb ht.size
  replace hb0 := hb0.below hb
  replace hb1 := hb1.below hb
  replace hF0 := hF0.below hb
  replace hM := hM.below hb
  clear hb
  have hm0 : (0 : Int) ≤ 1 + ((part rs1 rs1.length : Nat) : Int) := by omega
  clear hb0_0 hb0_1 hb0_2 hb0_l hb1_0 hb1_1 hb1_l
  obtain ⟨hb0_0, hb0_1, hb0_2⟩ := hb0.cells3
  have hb0_l := hb0.lt
  obtain ⟨hb1_0, hb1_1⟩ := hb1.cells2
  have hb1_l := hb1.lt
  -- region 31
  clear hb0_0 hb0_1 hb0_2 hb0_l hb1_0 hb1_1 hb1_l
  go_wp2_with fail
  refine wp_region_held_drew (S := (fun w' => w'.cell? ⟨w.heap.size, 0, none⟩ = some (.slice A0 n0 c0) ∧ w'.cell? ⟨w.heap.size, 1, none⟩ = some (.slice A1 n1 c1) ∧ w'.cell? ⟨w.heap.size, 2, none⟩ = some (.int .i64 k0) ∧ w'.cell? ⟨w.heap.size + 1, 0, none⟩ = some (.slice A2 n2 c2) ∧ w'.cell? ⟨w.heap.size + 1, 1, none⟩ = some (.bool t0))) (by kernel_rfl) ⟨hb0.drew.cell 0, hb0.drew.cell 1, hb0.drew.cell 2, hb1.drew.cell 0, hb1.drew.cell 1⟩ (fun hHeld => ?_)
  replace ht := ht.drew
  replace hb0 := hb0.drew
  replace hb1 := hb1.drew
  replace hF0 := hF0.drew
  replace hM := hM.drew
  refine wpAnyH_take (i := 0) (v := ?_) rfl (by kernel_rfl) (by kernel_rfl) (by kernel_rfl) (fun _ _ _ h => h) (Or.inl ⟨rfl, ?_⟩) hHeld ?_
  rotate_left
  · intro w' hS; obtain ⟨s0, s1, s2, s3, s4⟩ := hS; go_simp <;> with_reducible rfl
  simp only [Act.put, List.getElem_toArray, List.getElem_cons_succ, List.getElem_cons_zero, List.setIfInBounds_toArray, List.set_cons_succ, List.set_cons_zero]
  refine wpAnyH_take (i := 2) (v := ?_) rfl (by kernel_rfl) (by kernel_rfl) (by kernel_rfl) (fun _ _ _ h => h) (Or.inl ⟨rfl, ?_⟩) hHeld ?_
  rotate_left
  · intro w' hS; obtain ⟨s0, s1, s2, s3, s4⟩ := hS; go_simp <;> with_reducible rfl
  simp only [Act.put, List.getElem_toArray, List.getElem_cons_succ, List.getElem_cons_zero, List.setIfInBounds_toArray, List.set_cons_succ, List.set_cons_zero]
  refine wpAnyH_ready (rs := [1]) (by kernel_rfl) (by simp) (AllReadyH.cons rfl (fun K hK => ?_) AllReadyH.nil)
  go_simp
  refine (toCrew_own A0 n0 c0 x0 A1 n1 c1 x1 k0 _ (by exact h0.below ht) (by exact h1.below ht) HX0.out HX1.out (by omega) (by omega)).mono ?_
  rintro e v19 ⟨gr0, gr1, rfl, hgr0, hwr0, hgr1, hwr1, hb⟩
  have hz19 : v18.heap.size ≤ v19.heap.size := by have := hb.size; simpa using this
  replace ht := below_then ht hb ht.size
  replace hb0 := hb0.below hb
  replace hb1 := hb1.below hb
  replace hF0 := hF0.below hb
  replace hM := hM.below hb
  have hgmr0 : v18.heap.size ≤ gr1 ∧ gr1 < v19.heap.size := ⟨by have := hgr0; (try simp at this); omega, hwr1.lt⟩
  have hr0 := Fresh.of_whole (lo := v18.heap.size) (hi := gr1) hwr0 (by simpa using hgr0) hgr1
  have hr1 := Fresh.of_whole (lo := gr1) (hi := v19.heap.size) hwr1 (Nat.le_refl _) hwr1.lt
  clear hgr0 hwr0 hgr1 hwr1
  clear hb
  refine hK.out _ _ ⟨hb0.cell 0, hb0.cell 1, hb0.cell 2, hb1.cell 0, hb1.cell 1⟩ (fun hHeld => ?_)
  clear hK K
  try simp only [Act.put, List.getElem_toArray, List.getElem_cons_succ, List.getElem_cons_zero, List.setIfInBounds_toArray, List.set_cons_succ, List.set_cons_zero]
  refine wpAnyH_ready (rs := [3]) (by kernel_rfl) (by simp) (AllReadyH.cons rfl (fun K hK => ?_) AllReadyH.nil)
  go_simp
  refine (toState_own A2 n2 c2 x2 t0 _ (by exact h2.below ht) HX2.out (by omega)).mono ?_
  rintro e v20 ⟨gr2, rfl, hgr2, hwr2, hb⟩
  have hz20 : v19.heap.size ≤ v20.heap.size := by have := hb.size; simpa using this
  replace ht := below_then ht hb ht.size
  replace hb0 := hb0.below hb
  replace hb1 := hb1.below hb
  replace hF0 := hF0.below hb
  replace hM := hM.below hb
  replace hr0 := hr0.below hb
  replace hr1 := hr1.below hb
  have hr2 := Fresh.of_whole (lo := v19.heap.size) (hi := v20.heap.size) hwr2 (by simpa using hgr2) hwr2.lt
  clear hgr2 hwr2
  clear hb
  refine hK.out _ _ ⟨hb0.cell 0, hb0.cell 1, hb0.cell 2, hb1.cell 0, hb1.cell 1⟩ (fun hHeld => ?_)
  clear hK K
  try simp only [Act.put, List.getElem_toArray, List.getElem_cons_succ, List.getElem_cons_zero, List.setIfInBounds_toArray, List.set_cons_succ, List.set_cons_zero]
  refine wpAnyH_ready (rs := [4]) (by kernel_rfl) (by simp) (AllReadyH.cons rfl (fun K hK => ?_) AllReadyH.nil)
  go_simp
  refine (implRidesOfCrew_any _ n0 _ n1 _ x0 x1 k0 _ n2 _ x2 t0 _ (by exact hr0.holds) (by exact hr1.holds) (by exact hr2.holds) HX0.out HX1.out HX2.out (by omega) (by omega)).mono ?_
  rintro e v21 ⟨B2, m2, q2, rs2, rfl, he2, hl2, hF2, hb⟩
  have hz21 : v20.heap.size ≤ v21.heap.size := by have := hb.size; simpa using this
  replace ht := below_then ht hb ht.size
  replace hb0 := hb0.below hb
  replace hb1 := hb1.below hb
  replace hF0 := hF0.below hb
  replace hM := hM.below hb
  replace hr0 := hr0.below hb
  replace hr1 := hr1.below hb
  replace hr2 := hr2.below hb
  have HER2 := Lib.hid he2
  have HLR2 := Lib.hid hl2
  have hnr2 : m2 ≤ 1048576 := by have h1 := hl2; have h2 := congrArg List.length he2; rw [rowNums_len] at h2; have h3 := hlen.1; omega
  clear he2 hl2
  replace hF2 := hF2.more (lo' := v20.heap.size) (hi' := v21.heap.size) (by simp) (Nat.le_refl _)
  clear hb
  clear hr0 hr1 hr2
  refine hK.out _ _ ⟨hb0.cell 0, hb0.cell 1, hb0.cell 2, hb1.cell 0, hb1.cell 1⟩ (fun hHeld => ?_)
  clear hK K
  try simp only [Act.put, List.getElem_toArray, List.getElem_cons_succ, List.getElem_cons_zero, List.setIfInBounds_toArray, List.set_cons_succ, List.set_cons_zero]
  refine wpAnyH_take (i := 5) (v := ?_) rfl (by kernel_rfl) (by kernel_rfl) (by kernel_rfl) (fun _ _ _ h => h) (Or.inl ⟨rfl, ?_⟩) hHeld ?_
  rotate_left
  · intro w' hS; obtain ⟨s0, s1, s2, s3, s4⟩ := hS; go_simp <;> with_reducible rfl
  simp only [Act.put, List.getElem_toArray, List.getElem_cons_succ, List.getElem_cons_zero, List.setIfInBounds_toArray, List.set_cons_succ, List.set_cons_zero]
  refine wpAnyH_take (i := 6) (v := ?_) rfl (by kernel_rfl) (by kernel_rfl) (by kernel_rfl) (fun _ _ _ h => h) (Or.inl ⟨rfl, ?_⟩) hHeld ?_
  rotate_left
  · intro w' hS; obtain ⟨s0, s1, s2, s3, s4⟩ := hS; go_simp <;> with_reducible rfl
  simp only [Act.put, List.getElem_toArray, List.getElem_cons_succ, List.getElem_cons_zero, List.setIfInBounds_toArray, List.set_cons_succ, List.set_cons_zero]
  refine wpAnyH_take (i := 7) (v := ?_) rfl (by kernel_rfl) (by kernel_rfl) (by kernel_rfl) (fun _ _ _ h => h) (Or.inl ⟨rfl, ?_⟩) hHeld ?_
  rotate_left
  · intro w' hS; obtain ⟨s0, s1, s2, s3, s4⟩ := hS; go_simp <;> with_reducible rfl
  simp only [Act.put, List.getElem_toArray, List.getElem_cons_succ, List.getElem_cons_zero, List.setIfInBounds_toArray, List.set_cons_succ, List.set_cons_zero]
  refine wpAnyH_take (i := 8) (v := ?_) rfl (by kernel_rfl) (by kernel_rfl) (by kernel_rfl) (fun _ _ _ h => h) (Or.inl ⟨rfl, ?_⟩) hHeld ?_
  rotate_left
  · intro w' hS; obtain ⟨s0, s1, s2, s3, s4⟩ := hS; go_simp <;> with_reducible rfl
  simp only [Act.put, List.getElem_toArray, List.getElem_cons_succ, List.getElem_cons_zero, List.setIfInBounds_toArray, List.set_cons_succ, List.set_cons_zero]
  refine wpAnyH_take (i := 9) (v := ?_) rfl (by kernel_rfl) (by kernel_rfl) (by kernel_rfl) (fun _ _ _ h => h) (Or.inl ⟨rfl, ?_⟩) hHeld ?_
  rotate_left
  · intro w' hS; obtain ⟨s0, s1, s2, s3, s4⟩ := hS; go_simp <;> with_reducible rfl
  simp only [Act.put, List.getElem_toArray, List.getElem_cons_succ, List.getElem_cons_zero, List.setIfInBounds_toArray, List.set_cons_succ, List.set_cons_zero]
  refine wpAnyH_done (by kernel_rfl) ?_ _
  clear hHeld
  obtain ⟨hb0_0, hb0_1, hb0_2⟩ := hb0.cells3
  have hb0_l := hb0.lt
  obtain ⟨hb1_0, hb1_1⟩ := hb1.cells2
  have hb1_l := hb1.lt
  -- region 32
  go_wp2_with fail
  refine (eqIntSS_yes B2 B0 m2 m0 q2 q0 rs2 rs0 _ (by exact hF2.grid) (by exact hF0.grid) (by rw [HER2.out, HER0.out]) HLR2.out HLR0.out (by omega)).mono ?_
  rintro e v22 ⟨rfl, hb⟩
  have hz22 : v21.heap.size ≤ v22.heap.size := by have := hb.size; simpa using this
  replace ht := below_then ht hb ht.size
  replace hb0 := hb0.below hb
  replace hb1 := hb1.below hb
  replace hF0 := hF0.below hb
  replace hM := hM.below hb
  replace hF2 := hF2.below hb
  clear hb
  clear hb0_0 hb0_1 hb0_2 hb0_l hb1_0 hb1_1 hb1_l
  obtain ⟨hb0_0, hb0_1, hb0_2⟩ := hb0.cells3
  have hb0_l := hb0.lt
  obtain ⟨hb1_0, hb1_1⟩ := hb1.cells2
  have hb1_l := hb1.lt
  -- region 35
  go_wp2_with fail
  refine (heldIntSS_any B1 m1 q1 rs1 1 _ (by exact hM.grid) HLR1.out (by omega) (by omega) hnr1 hprt).mono ?_
  rintro e v23 ⟨rfl, hb⟩
  have hz23 : v22.heap.size ≤ v23.heap.size := by have := hb.size; simpa using this
  replace ht := below_then ht hb ht.size
  replace hb0 := hb0.below hb
  replace hb1 := hb1.below hb
  replace hF0 := hF0.below hb
  replace hM := hM.below hb
  replace hF2 := hF2.below hb
  clear hb
  clear hb0_0 hb0_1 hb0_2 hb0_l hb1_0 hb1_1 hb1_l
  obtain ⟨hb0_0, hb0_1, hb0_2⟩ := hb0.cells3
  have hb0_l := hb0.lt
  obtain ⟨hb1_0, hb1_1⟩ := hb1.cells2
  have hb1_l := hb1.lt
  go_wp2
  go_ret
  exact ⟨rfl, ht⟩

theorem lawRidesOfCrew_all (A0 : Option Addr) (n0 c0 : Nat) (x0 : List Int) (A1 : Option Addr) (n1 c1 : Nat) (x1 : List Bool) (k0 : Int) (A2 : Option Addr) (n2 c2 : Nat) (x2 : List Bool) (t0 : Bool) (w : World) (h0 : Holds w A0 (nums x0)) (hx0 : x0.length = n0) (hn0 : n0 ≤ 9223372036854775807) (h1 : Holds w A1 (bits x1)) (hx1 : x1.length = n1) (hn1 : n1 ≤ 9223372036854775807) (h2 : Holds w A2 (bits x2)) (hx2 : x2.length = n2) (hn2 : n2 ≤ 9223372036854775807) :
    Calls Try.prog 4 #[.agg #[.slice A0 n0 c0, .slice A1 n1 c1, .int .i64 k0], .agg #[.slice A2 n2 c2, .bool t0]] w fun e w' => e = .returned (.bool true) ∧ Below w.heap.size w w' := by
  rcases (inferInstance : Decidable (0 ≤ 1048576 - (n0 : Int) - (n1 : Int))) with g0 | g0
  · exact lawRidesOfCrew_big0 A0 n0 c0 x0 A1 n1 c1 x1 k0 A2 n2 c2 x2 t0 w h0 hx0 hn0 h1 hx1 hn1 h2 hx2 hn2  (by omega)
  rcases (inferInstance : Decidable (0 ≤ 1048576 - (n0 : Int) - (n1 : Int) - (n2 : Int))) with g1 | g1
  · exact lawRidesOfCrew_big1 A0 n0 c0 x0 A1 n1 c1 x1 k0 A2 n2 c2 x2 t0 w h0 hx0 hn0 h1 hx1 hn1 h2 hx2 hn2 g0 (by omega)
  exact lawRidesOfCrew_small A0 n0 c0 x0 A1 n1 c1 x1 k0 A2 n2 c2 x2 t0 w h0 hx0 hn0 h1 hx1 hn1 h2 hx2 hn2 g0 g1
end Go.Proofs.Ytkocompjjogciaa
