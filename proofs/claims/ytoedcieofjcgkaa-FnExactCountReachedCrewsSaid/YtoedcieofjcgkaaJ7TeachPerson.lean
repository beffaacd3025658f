/-
  What is proved: contracts of both IsCrewPlan. Conditions: the arguments are read as they lie.
  What is proved: the contract of the program's crew with a person who can or cannot row. Conditions: what is asked of a crew's people, as many rows as people, and a person of it.
  What is proved: a contract of the model's TeachPerson. Conditions: the arguments are read as they lie.
  What is proved: the law FnExactTeachPerson returns true at every argument, and leaves all that was there as it was. Conditions: the arguments are read as they lie.
-/
import Derived.ArgAppend
import Derived.Deep.DeepCutAuto
import Derived.Deep.RegionHeld3
import Derived.Deep.RegionLawGrows
import Derived.Test.YtoedcieofjcgkaaJ6TeachPerson
set_option linter.unusedSimpArgs false
set_option linter.unusedVariables false
namespace Go.Proofs.Ytoedcieofjcgkaa
open Go.RowKit

theorem Fresh.set_ne {w : World} {lo hi b o : Nat} {ty t : TypeId} {A : Option Addr} {xs : List Value} {u : Value} {cs : Array Value} (hf : Fresh w lo hi ty A xs) (hb : Whole w b t cs) (hn : t ≠ ty) : Fresh (w.setCell ⟨b, o, none⟩ u) lo hi ty A xs := by
  rcases hf with rfl | ⟨g, cs', hA, h1, h2, hw, h3, h4⟩
  · exact .inl rfl
  · exact .inr ⟨g, cs', hA, h1, h2, hw.off (whole_ne hw hb (fun e => hn e.symm)), h3, h4⟩
theorem Fresh.spots {w : World} {lo hi : Nat} {ty : TypeId} {A : Option Addr} {xs : List Value} (hf : Fresh w lo hi ty A xs) (h0 : 0 < xs.length) : ∃ g, A = some ⟨g, 0, none⟩ ∧ ∀ j u, xs[j]? = some u → w.cell? ⟨g, 0 + j, none⟩ = some u := by
  have hh := hf.holds
  rcases hf with rfl | ⟨g, cs', rfl, h1, h2, hw, h3, h4⟩
  · simp at h0
  · refine ⟨g, rfl, fun j u hu => ?_⟩
    rcases hh with h | ⟨b, o, hA, hb, hc⟩
    · rw [h] at h0; simp at h0
    · obtain ⟨rfl, rfl⟩ : g = b ∧ 0 = o := by simpa using hA
      exact hc j u hu
def wpOk (xs : List Int) (m : Nat) (s : Int) (ls : List (List Int)) : Bool := isCrew xs m s && decide (ls.length ≤ 40)
def isWP (xs : List Int) (bs : List Bool) (m : Nat) (s : Int) (ls : List (List Int)) : Bool := wpOk xs m s ls && playW xs.length (crewLists xs bs s) (falses xs.length) false ls
theorem wp_no {xs : List Int} {bs : List Bool} {m : Nat} {s : Int} {ls : List (List Int)} (h : isCrew xs m s = false ∨ 40 < ls.length) : wpOk xs m s ls = false ∧ isWP xs bs m s ls = false := by
  have h0 : wpOk xs m s ls = false := by
    rcases h with h | h
    · simp [wpOk, h]
    · simp [wpOk]; omega
  exact ⟨h0, by simp [isWP, h0]⟩
theorem wp_yes {xs : List Int} {bs : List Bool} {m : Nat} {s : Int} {ls : List (List Int)} (h : isCrew xs m s = true) (h40 : ls.length ≤ 40) : wpOk xs m s ls = true ∧ isWP xs bs m s ls = playW xs.length (crewLists xs bs s) (falses xs.length) false ls := by
  have h0 : wpOk xs m s ls = true := by simp [wpOk, h, h40]
  exact ⟨h0, by simp [isWP, h0]⟩
theorem crew_small {xs : List Int} (bs : List Bool) (s : Int) (h : xs.length ≤ 7) : (crewLists xs bs s).length ≤ 255 := Nat.le_trans (legs_len _ _ _ _) (upLists_small (by omega))
theorem crew_up {xs : List Int} {bs : List Bool} {s : Int} {l : List Int} (h : l ∈ crewLists xs bs s) : l ∈ upLists xs.length xs.length := (List.mem_filter.1 h).1
theorem ride_in {xs : List Int} {bs : List Bool} {s : Int} {sb : List Bool} {t : Bool} {l : List Int} : canRide xs bs s sb t l = true ↔ l ∈ ridesAt sb t (crewLists xs bs s) := ride_mem

set_option maxHeartbeats 3200000 in
set_option maxRecDepth 100000 in
set_option linter.unusedVariables false in
theorem implIsCrewPlan_any (A : Option Addr) (n : Nat) (B : Option Addr) (m d : Nat) (xs : List Int) (bs : List Bool) (s : Int) (D : Option Addr) (r z : Nat) (rs : List RowV) (w : World) (hA : Holds w A (nums xs)) (hB : Holds w B (bits bs)) (hD : Grid w D rs) (hx : xs.length = n) (hy : bs.length = m) (hz : rs.length = r) (hn : n ≤ 9223372036854775807) (hr : r ≤ 9223372036854775807) :
    Calls Try.prog 50 #[.agg #[.slice A n n, .slice B m d, .int .i64 s], .slice D r z] w (TwoTold (isWP xs bs m s (rowNums rs)) (wpOk xs m s (rowNums rs)) w) := by
  have HX := Lib.hid hx
  have HY := Lib.hid hy
  have HZ := Lib.hid hz
  have HLS := Lib.hid (rowNums_len rs)
  have h0 := Whole.fresh w 39 #[.slice A n n, .slice B m d, .int .i64 s]
  have hbw := below1 w (.cells #[.slice A n n, .slice B m d, .int .i64 s] 39)
  clear hz
  cases hp : isCrew xs m s
  · have HP := Lib.hid hp
    have HF := Lib.hid (wp_no (bs := bs) (ls := rowNums rs) (.inl hp))
    clear hp hx hy
    go_enter Try.func50, Try.ntmps50
    go_wp2_with fail
    refine (isCrew_any A n n B m d xs s _ (by exact hA.below hbw) HX.out hn).mono ?_
    rintro e w1 ⟨rfl, hb⟩
    rw [HP.out]
    have ht := below_then hbw hb (by simp)
    clear hb
    go_wp2
    go_ret2
    exact ⟨by rw [HF.out.1, HF.out.2]; rfl, ht⟩
  have HP := Lib.hid hp
  have hok := isCrew_ok hp
  by_cases h40 : 40 < r
  · have hd : decide ((r : Int) > 40) = true := by simp; omega
    have HF := Lib.hid (wp_no (xs := xs) (bs := bs) (m := m) (s := s) (ls := rowNums rs) (.inr (by have := HLS.out; have := HZ.out; omega)))
    clear hp hx hy hok
    go_enter Try.func50, Try.ntmps50
    go_wp2_with fail
    refine (isCrew_any A n n B m d xs s _ (by exact hA.below hbw) HX.out hn).mono ?_
    rintro e w1 ⟨rfl, hb⟩
    rw [HP.out]
    have ht := below_then hbw hb (by simp)
    clear hb
    go_wp2
    go_ret2
    exact ⟨by rw [HF.out.1, HF.out.2]; rfl, ht⟩
  have hd : decide ((r : Int) > 40) = false := by simp; omega
  have HF := Lib.hid (wp_yes (bs := bs) (ls := rowNums rs) hp (by have := HLS.out; have := HZ.out; omega))
  have hn7 : n ≤ 7 := by have := hok.seven; omega
  have hn1 : 1 ≤ n := by have := hok.one; omega
  have hm8 : m ≤ 8 := by have := hok.rows; omega
  have HW := Lib.hid hok.weights
  have HSM := Lib.hid (crew_small (xs := xs) bs s (by omega))
  have HUP : Hid (∀ l ∈ crewLists xs bs s, l ∈ upLists n n) := fun l hl => by have := crew_up hl; rw [hx] at this; exact this
  clear hp hx hy hok
  go_enter Try.func50, Try.ntmps50
  go_wp2_with fail
  refine (isCrew_any A n n B m d xs s _ (by exact hA.below hbw) HX.out hn).mono ?_
  rintro e w0 ⟨rfl, hb⟩
  rw [HP.out]
  have ht := below_then hbw hb (by simp)
  obtain ⟨c0, c1, c2⟩ := (h0.below hb).cells3
  clear hb h0 hbw
  go_wp2_with fail
  refine (crewRiver_any A n B m d xs bs s _ (by exact hA.below ht) (by exact hB.below ht) HX.out HY.out hn1 hn7 hm8 HW.out).mono ?_
  rintro e w1 ⟨gL, g, E, c, rfl, hRF, hb⟩
  have HT := Lib.hid (below_then ht hb ht.size)
  have HRF := Lib.hid hRF
  clear ht hb hRF c0 c1 c2
  go_wp2_with fail
  refine (leadsCrew_any (loadOf xs) n gL g E c (crewLists xs bs s) D r z rs w1 (by omega) HSM.out HUP.out HRF.out (by exact hD.below HT.out) HZ.out hr (by omega)).mono ?_
  rintro e w2 ⟨rfl, hb⟩
  go_wp2
  go_ret2
  exact ⟨by rw [HF.out.1, HF.out.2, HX.out]; rfl, below_then HT.out hb HT.out.size⟩

set_option maxHeartbeats 6400000 in
set_option maxRecDepth 100000 in
set_option linter.unusedVariables false in
set_option linter.unusedSimpArgs false in
theorem specIsCrewPlan_any (A : Option Addr) (n c : Nat) (B : Option Addr) (m d : Nat) (xs : List Int) (bs : List Bool) (s : Int) (D : Option Addr) (r z : Nat) (rs : List RowV) (w : World) (hA : Holds w A (nums xs)) (hB : Holds w B (bits bs)) (hD : Grid w D rs) (hx : xs.length = n) (hy : bs.length = m) (hz : rs.length = r) (hn : n ≤ 9223372036854775807) (hr : r ≤ 9223372036854775807) :
    Calls Try.prog 49 #[.agg #[.slice A n c, .slice B m d, .int .i64 s], .slice D r z] w (TwoTold (isWP xs bs m s (rowNums rs)) (wpOk xs m s (rowNums rs)) w) := by
  have HX := Lib.hid hx
  have HY := Lib.hid hy
  have HZ := Lib.hid hz
  have HLS := Lib.hid (rowNums_len rs)
  have h0 := Whole.fresh w 39 #[.slice A n c, .slice B m d, .int .i64 s]
  have hbw := below1 w (.cells #[.slice A n c, .slice B m d, .int .i64 s] 39)
  clear hz
  cases hp : isCrew xs m s
  · have HP := Lib.hid hp
    have HF := Lib.hid (wp_no (bs := bs) (ls := rowNums rs) (.inl hp))
    clear hp hx hy
    go_enter Try.func49, Try.ntmps49
    go_wp2_with fail
    refine (loGood_any A n c B m d xs s _ (by exact hA.below hbw) HX.out hn).mono ?_
    rintro e w1 ⟨rfl, hb⟩
    rw [HP.out]
    have ht := below_then hbw hb (by simp)
    clear hb
    go_wp2
    go_ret2
    exact ⟨by rw [HF.out.1, HF.out.2]; rfl, ht⟩
  have HP := Lib.hid hp
  have hok := isCrew_ok hp
  by_cases h40 : 40 < r
  · have hd : decide ((r : Int) > 40) = true := by simp; omega
    have HF := Lib.hid (wp_no (xs := xs) (bs := bs) (m := m) (s := s) (ls := rowNums rs) (.inr (by have := HLS.out; have := HZ.out; omega)))
    clear hp hx hy hok
    go_enter Try.func49, Try.ntmps49
    go_wp2_with fail
    refine (loGood_any A n c B m d xs s _ (by exact hA.below hbw) HX.out hn).mono ?_
    rintro e w1 ⟨rfl, hb⟩
    rw [HP.out]
    have ht := below_then hbw hb (by simp)
    clear hb
    go_wp2
    go_ret2
    exact ⟨by rw [HF.out.1, HF.out.2]; rfl, ht⟩
  have hd : decide ((r : Int) > 40) = false := by simp; omega
  obtain ⟨Q, hQ⟩ : ∃ Q : Bool, Q = playW n (crewLists xs bs s) (falses n) false (rowNums rs) := ⟨_, rfl⟩
  have HF : Hid (wpOk xs m s (rowNums rs) = true ∧ isWP xs bs m s (rowNums rs) = Q) := by
    have h := wp_yes (bs := bs) (ls := rowNums rs) hp (by have := HLS.out; have := HZ.out; omega)
    exact ⟨h.1, by rw [h.2, hQ, hx]⟩
  have HQ := Lib.hid hQ
  have hn7 : n ≤ 7 := by have := hok.seven; omega
  have hn1 : 1 ≤ n := by have := hok.one; omega
  have hm8 : m ≤ 8 := by have := hok.rows; omega
  have HOK := Lib.hid hok
  clear hp hx hy hok hQ
  go_enter Try.func49, Try.ntmps49
  go_wp2_with fail
  refine (loGood_any A n c B m d xs s _ (by exact hA.below hbw) HX.out hn).mono ?_
  rintro e w0 ⟨rfl, hb⟩
  rw [HP.out]
  have ht := below_then hbw hb (by simp)
  have hcr := h0.below hb
  obtain ⟨c0, c1, c2⟩ := hcr.cells3
  clear hb h0 hbw
  go_wp2_with fail
  refine (loParty_any A n c B m d s _).mono ?_
  rintro e w1 ⟨rfl, hb⟩
  replace hcr := hcr.below hb
  replace ht := below_then ht hb ht.size
  clear hb c0 c1 c2
  go_wp2_with fail
  refine (paFirst_any A n c 0 _ (by omega)).mono ?_
  rintro e w2 ⟨rfl, hw2, hb⟩
  have hF0 : Fresh w2 w.heap.size w2.heap.size 4 (some ⟨w1.heap.size + 1 + 1, 0, none⟩) (bits (falses n)) := Fresh.of_whole hw2 (by have := ht.size; omega) hw2.lt
  replace hcr := hcr.below hb
  replace ht := below_then ht hb ht.size
  generalize (some ⟨w1.heap.size + 1 + 1, 0, none⟩ : Option Addr) = F0 at hF0 ⊢
  clear hb hw2
  have HS0 := Lib.hid (Whole.fresh w2 48 #[.slice F0 n n, .bool false])
  have HC0 := Lib.hid (hcr.alloc (.cells #[.slice F0 n n, .bool false] 48))
  have HF0 := Lib.hid (fresh_up (hF0.alloc (.cells #[.slice F0 n n, .bool false] 48)) (by simp))
  have HT0 := Lib.hid (ht.alloc ht.size (.cells #[.slice F0 n n, .bool false] 48))
  have hgz := ht.size
  clear hcr hF0 ht
  obtain ⟨g, hg⟩ : ∃ g, g = w2.heap.size := ⟨_, rfl⟩
  have HG := Lib.hid hg
  go_wp2_with fail
  go_loopw [22] (fun i wr => ∃ (j : Nat) (sb : List Bool) (t : Bool) (F : Option Addr) (q2 : Nat), j ≤ r ∧ i = .int .i64 j ∧ sb.length = n ∧ Q = playW n (crewLists xs bs s) sb t ((rowNums rs).drop j) ∧ Whole wr w.heap.size 39 #[.slice A n c, .slice B m d, .int .i64 s] ∧ Whole wr w2.heap.size 48 #[.slice F n q2, .bool t] ∧ Fresh wr w.heap.size wr.heap.size 4 F (bits sb) ∧ Below w.heap.size w wr) (fun i _ => r - (intOf i).toNat)
  case atStart => exact ⟨0, falses n, false, F0, n, Nat.zero_le _, rfl, falses_len n, HQ.out, HC0.out, HS0.out, HF0.out, HT0.out⟩
  case round =>
    clear HC0 HS0 HF0 HT0
    obtain ⟨j, sb, t, F, q2, hj, rfl, hsb, hpl, hcr, hst, hF, ht⟩ := hrel
    have HSB := Lib.hid hsb
    have HPL := Lib.hid hpl
    clear hsb hpl
    obtain ⟨c0, c1, c2⟩ := hcr.cells3
    obtain ⟨d0, d1, -, -⟩ := hst.two
    by_cases hlt : j < r
    · have hlt' : j < rs.length := by have := HZ.out; omega
      have hlj : j < (rowNums rs).length := by rw [HLS.out]; exact hlt'
      have hDr := hD.below ht
      obtain ⟨b, o, rfl, hbl, hcell, hrow, hrl, hrn⟩ := hDr.look hlt'
      have HGT : Hid ((rowNums rs)[j] = rs[j].xs) := by show _ = _; simp [rowNums]
      have HRW := Lib.hid hrow
      have HRL := Lib.hid hrl
      clear hDr hrow hrl
      go_wp2_with fail
      refine (loCan_any A n c B m d xs bs s F n q2 sb t _ _ _ rs[j].xs _ (by exact hA.below ht) (by exact hB.below ht) (by exact hF.holds) HRW.out HX.out HY.out HSB.out HRL.out hrn HOK.out (by rw [HSB.out, HX.out])).mono ?_
      rintro e w4 ⟨rfl, hb⟩
      replace hcr := hcr.below hb
      replace hst := hst.below hb
      replace hF := hF.below hb
      replace ht := below_then ht hb ht.size
      have hRW := HRW.out.below hb
      have hzz := hb.size
      clear hb c0 c1 c2 d0 d1 hcell
      cases hc : canRide xs bs s sb t rs[j].xs
      · have HST : Hid (Q = false) := by show _ = _; rw [HPL.out]; exact playW_stop hlj (by rw [HGT.out, ← ride_in, hc]; simp)
        clear hc
        go_wp2
        go_ret2
        exact ⟨by rw [HF.out.1, HF.out.2, HST.out]; rfl, ht⟩
      · have HNX : Hid (Q = playW n (crewLists xs bs s) (flipped sb rs[j].xs) (!t) ((rowNums rs).drop (j + 1))) := by
          show _ = _
          rw [HPL.out, playW_next hlj (by rw [HGT.out]; exact ride_in.1 hc), HGT.out]
        have hri : rising rs[j].xs ((xs.length : Int) - 1) = true := by
          simp only [canRide, Bool.and_eq_true] at hc; exact hc.2.1
        have HSTP : Hid (StepsTo rs[j].xs ((n : Int) - 1) rs[j].xs.length) := by have h := rising_steps hri; rw [HX.out] at h; exact h
        obtain ⟨fb, rfl, hspots⟩ := hF.spots (by rw [bits_len, HSB.out]; omega)
        obtain ⟨d0, d1, -, -⟩ := hst.two
        have hstl := hst.lt
        clear hc hri
        go_wp2_with fail
        refine (paCross_any fb 0 n q2 _ _ _ sb rs[j].xs t w4 hspots HSB.out (by omega) (by omega) hRW HRL.out hrn HSTP.out).mono ?_
        rintro e w5 ⟨F5, q5, rfl, hF5, hb⟩
        rw [flipped_len, HSB.out]
        replace hcr := hcr.below hb
        replace hst := hst.below hb
        have hsz := ht.size
        replace ht := below_then ht hb ht.size
        have hF6 : Fresh w5 w.heap.size w5.heap.size 4 F5 (bits (flipped sb rs[j].xs)) := hF5.more hsz (Nat.le_refl _)
        have f0 := hst.open_ 0
        have f1 := hst.open_ 1
        clear hb d0 d1 hF hspots hF5 hRW
        obtain ⟨d0, d1, -, -⟩ := hst.two
        have hcr2 := (hcr.off (b := w2.heap.size) (o := 0) (u := .slice F5 n q5) (whole_ne hcr hst (by decide))).off (b := w2.heap.size) (o := 1) (u := .bool (!t)) (by have := whole_ne hcr hst (by decide); exact this)
        have hst1 := hst.set_ 0 (.slice F5 n q5)
        have hF7 := (hF6.set_ne (o := 0) (u := .slice F5 n q5) hst (by decide)).set_ne (o := 1) (u := .bool (!t)) hst1 (by decide)
        have hst2 : Whole ((w5.setCell ⟨w2.heap.size, 0, none⟩ (.slice F5 n q5)).setCell ⟨w2.heap.size, 1, none⟩ (.bool (!t))) w2.heap.size 48 #[.slice F5 n q5, .bool (!t)] := by simpa using hst1.set_ 1 (.bool (!t))
        have ht2 := below_set (b := w2.heap.size) (o := 1) (u := .bool (!t)) (below_set (b := w2.heap.size) (o := 0) (u := .slice F5 n q5) ht (by omega)) (by omega)
        have HCR := Lib.hid hcr2
        have HST := Lib.hid hst2
        have HFF := Lib.hid hF7
        have HTT := Lib.hid ht2
        clear hcr hst hF6 ht hcr2 hst1 hst2 hF7 ht2
        go_wp2
        go_roundw
        case measure => simp [intOf]; omega
        case rel => exact ⟨j + 1, flipped sb rs[j].xs, !t, F5, q5, by omega, by go_num, by rw [flipped_len]; exact HSB.out, HNX.out, HCR.out, HST.out, by simpa [World.setCell] using HFF.out, HTT.out⟩
    · have hje : j = r := by omega
      have HEN : Hid (Q = (sameBits sb (trues n) && t)) := by
        show _ = _
        rw [HPL.out, List.drop_eq_nil_of_le (by rw [HLS.out]; have := HZ.out; omega), playW]
      clear c0 c1 c2 d0 d1
      go_wp2_with fail
      refine wp_region_held_drew (S := (fun w' => Box3 w.heap.size (.slice A n c) (.slice B m d) (.int .i64 s) w' ∧ Box1 w2.heap.size (.slice F n q2) (.bool t) w')) (by kernel_rfl) ⟨box3_of hcr.drew, box1_of hst.drew⟩ (fun hHeld => ?_)
      replace hcr := hcr.drew
      replace hst := hst.drew
      replace hF := hF.drew
      replace ht := ht.drew
      generalize World.drew wr = wd at hcr hst hF ht hHeld ⊢
      refine wpAnyH_take (i := 0) (v := ?_) rfl (by kernel_rfl) (by kernel_rfl) (by kernel_rfl) (fun _ _ _ h => h) (Or.inl ⟨rfl, ?_⟩) hHeld ?_
      rotate_left
      · intro w' hS; obtain ⟨⟨a0, a1, a2⟩, b0, b1⟩ := hS; go_simp <;> with_reducible rfl
      simp only [Act.put, List.getElem_toArray, List.getElem_cons_succ, List.getElem_cons_zero, List.setIfInBounds_toArray, List.set_cons_succ, List.set_cons_zero]
      refine wpAnyH_take (i := 1) (v := ?_) rfl (by kernel_rfl) (by kernel_rfl) (by kernel_rfl) (fun _ _ _ h => h) (Or.inl ⟨rfl, ?_⟩) hHeld ?_
      rotate_left
      · intro w' hS; obtain ⟨⟨a0, a1, a2⟩, b0, b1⟩ := hS; go_simp <;> with_reducible rfl
      simp only [Act.put, List.getElem_toArray, List.getElem_cons_succ, List.getElem_cons_zero, List.setIfInBounds_toArray, List.set_cons_succ, List.set_cons_zero]
      refine wpAnyH_ready (rs := [2]) (by kernel_rfl) (by simp) (AllReadyH.cons rfl (fun K hK => ?_) AllReadyH.nil)
      go_simp
      refine (loParty_any A n c B m d s _).mono ?_
      rintro e wy ⟨rfl, hb⟩
      replace hcr := hcr.below hb
      replace hst := hst.below hb
      replace hF := hF.below hb
      replace ht := below_then ht hb ht.size
      clear hb
      refine hK.out _ _ ⟨box3_of hcr, box1_of hst⟩ (fun hHeld => ?_)
      clear hK K
      try simp only [Act.put, List.getElem_toArray, List.getElem_cons_succ, List.getElem_cons_zero, List.setIfInBounds_toArray, List.set_cons_succ, List.set_cons_zero]
      refine wpAnyH_ready (rs := [3]) (by kernel_rfl) (by simp) (AllReadyH.cons rfl (fun K hK => ?_) AllReadyH.nil)
      go_simp
      refine (paLast_any A n c 0 _ (by omega)).mono ?_
      rintro e wz ⟨A3, q3, rfl, hf3, hb⟩
      rw [trues_len]
      replace hcr := hcr.below hb
      replace hst := hst.below hb
      replace hF := hF.below hb
      replace ht := below_then ht hb ht.size
      clear hb
      refine hK.out _ _ ⟨box3_of hcr, box1_of hst⟩ (fun hHeld => ?_)
      clear hK K
      try simp only [Act.put, List.getElem_toArray, List.getElem_cons_succ, List.getElem_cons_zero, List.setIfInBounds_toArray, List.set_cons_succ, List.set_cons_zero]
      refine wpAnyH_ready (rs := [4]) (by kernel_rfl) (by simp) (AllReadyH.cons rfl (fun K hK => ?_) AllReadyH.nil)
      go_simp
      refine (paSame_any F A3 n q2 q3 sb (trues n) t true _ (by exact hF.holds) (by exact hf3.holds) HSB.out (trues_len n) (by omega)).mono ?_
      rintro e wv ⟨rfl, hb⟩
      replace hcr := hcr.below hb
      replace hst := hst.below hb
      replace ht := below_then ht hb ht.size
      clear hb
      refine hK.out _ _ ⟨box3_of hcr, box1_of hst⟩ (fun hHeld => ?_)
      clear hK K
      try simp only [Act.put, List.getElem_toArray, List.getElem_cons_succ, List.getElem_cons_zero, List.setIfInBounds_toArray, List.set_cons_succ, List.set_cons_zero]
      refine wpAnyH_take (i := 5) (v := ?_) rfl (by kernel_rfl) (by kernel_rfl) (by kernel_rfl) (fun _ _ _ h => h) (Or.inl ⟨rfl, ?_⟩) hHeld ?_
      rotate_left
      · intro w' hS; obtain ⟨⟨a0, a1, a2⟩, b0, b1⟩ := hS; go_simp <;> with_reducible rfl
      simp only [Act.put, List.getElem_toArray, List.getElem_cons_succ, List.getElem_cons_zero, List.setIfInBounds_toArray, List.set_cons_succ, List.set_cons_zero]
      refine wpAnyH_take (i := 6) (v := ?_) rfl (by kernel_rfl) (by kernel_rfl) (by kernel_rfl) (fun _ _ _ h => h) (Or.inl ⟨rfl, ?_⟩) hHeld ?_
      rotate_left
      · intro w' hS; obtain ⟨⟨a0, a1, a2⟩, b0, b1⟩ := hS; go_simp <;> with_reducible rfl
      simp only [Act.put, List.getElem_toArray, List.getElem_cons_succ, List.getElem_cons_zero, List.setIfInBounds_toArray, List.set_cons_succ, List.set_cons_zero]
      refine wpAnyH_done (by kernel_rfl) ?_ _
      clear hHeld
      go_wp2
      go_ret2
      exact ⟨by rw [HF.out.1, HF.out.2, HEN.out]; rfl, ht⟩
theorem implIsCrewPlan_on (A : Option Addr) (n : Nat) (B : Option Addr) (m d : Nat) (xs : List Int) (bs : List Bool) (s : Int) (D : Option Addr) (r z : Nat) (rs : List RowV) (ls : List (List Int)) (w : World) (hA : Holds w A (nums xs)) (hB : Holds w B (bits bs)) (hD : Grid w D rs) (he : rowNums rs = ls) (hx : xs.length = n) (hy : bs.length = m) (hz : rs.length = r) (hn : n ≤ 9223372036854775807) (hr : r ≤ 9223372036854775807) :
    Calls Try.prog 50 #[.agg #[.slice A n n, .slice B m d, .int .i64 s], .slice D r z] w (TwoTold (isWP xs bs m s ls) (wpOk xs m s ls) w) := by
  subst he
  exact implIsCrewPlan_any A n B m d xs bs s D r z rs w hA hB hD hx hy hz hn hr
theorem specIsCrewPlan_on (A : Option Addr) (n c : Nat) (B : Option Addr) (m d : Nat) (xs : List Int) (bs : List Bool) (s : Int) (D : Option Addr) (r z : Nat) (rs : List RowV) (ls : List (List Int)) (w : World) (hA : Holds w A (nums xs)) (hB : Holds w B (bits bs)) (hD : Grid w D rs) (he : rowNums rs = ls) (hx : xs.length = n) (hy : bs.length = m) (hz : rs.length = r) (hn : n ≤ 9223372036854775807) (hr : r ≤ 9223372036854775807) :
    Calls Try.prog 49 #[.agg #[.slice A n c, .slice B m d, .int .i64 s], .slice D r z] w (TwoTold (isWP xs bs m s ls) (wpOk xs m s ls) w) := by
  subst he
  exact specIsCrewPlan_any A n c B m d xs bs s D r z rs w hA hB hD hx hy hz hn hr
end Go.Proofs.Ytoedcieofjcgkaa

namespace Go.Proofs.Ytoedcieofjcgkaa
open Go.RowKit

/-- A crew in which the person k rows as told. -/
def rowsSet (bs : List Bool) (k : Nat) (can : Bool) : List Bool := bs.take k ++ [can] ++ bs.drop (k + 1)
theorem rowsSet_len {bs : List Bool} {k : Nat} {can : Bool} (h : k < bs.length) : (rowsSet bs k can).length = bs.length := by simp [rowsSet]; omega
theorem size_crew : (Try.prog.info? 39).map (·.size) = some 3 := by kernel_rfl
theorem tailB_at {w : World} {b o n c k : Nat} {xs : List Bool} (hc : ∀ j u, (bits xs)[j]? = some u → w.cell? ⟨b, o + j, none⟩ = some u) (hx : xs.length = n) (hn : n ≤ c) :
    ∃ d, (if c = k + 1 then some (⟨b, o, none⟩ : Addr) else some ⟨b, o + (k + 1), none⟩) = some ⟨b, d, none⟩ ∧ ∀ j u, (bits (xs.drop (k + 1)))[j]? = some u → w.cell? ⟨b, d + j, none⟩ = some u := by
  by_cases h : c = k + 1
  · refine ⟨o, by simp [h], fun j u hu => ?_⟩
    have h0 : xs.drop (k + 1) = [] := List.drop_eq_nil_of_le (by omega)
    rw [h0] at hu
    simp [bits] at hu
  · refine ⟨o + (k + 1), by simp [h], fun j u hu => ?_⟩
    have := hc (k + 1 + j) u (by simpa [bits, List.getElem?_map, List.getElem?_drop] using hu)
    rw [show o + (k + 1) + j = o + (k + 1 + j) by omega]
    exact this
/-- What a call hands back that makes a crew. -/
def CrewMade (xs : List Int) (bs : List Bool) (s : Int) (w : World) (e : Ending) (w' : World) : Prop :=
  ∃ (E : Option Addr) (c1 : Nat) (F : Option Addr) (c2 : Nat), e = .returned (.agg #[.slice E xs.length c1, .slice F bs.length c2, .int .i64 s]) ∧ Fresh w' w.heap.size w'.heap.size 3 E (nums xs) ∧ Fresh w' w.heap.size w'.heap.size 4 F (bits bs) ∧ Below w.heap.size w w'

set_option maxHeartbeats 6400000 in
set_option maxRecDepth 100000 in
set_option linter.unusedSimpArgs false in
set_option linter.unusedVariables false in
theorem withRower_any (A : Option Addr) (n c0 b o d : Nat) (xs : List Int) (bs : List Bool) (s : Int) (k : Nat) (can : Bool) (w : World) (hA : Holds w A (nums xs)) (hB : ∀ j u, (bits bs)[j]? = some u → w.cell? ⟨b, o + j, none⟩ = some u) (hbl : b < w.heap.size) (hx : xs.length = n) (hy : bs.length = n) (h1 : 1 ≤ n) (hn7 : n ≤ 7) (hk : k < n) (hd : n ≤ d) (hd2 : d ≤ 1048576) (hnil : A = none → n = 0 ∧ c0 = 0) :
    Calls Try.prog 99 #[.agg #[.slice A n c0, .slice (some ⟨b, o, none⟩) n d, .int .i64 s], .int .i64 k, .bool can] w (CrewMade xs (rowsSet bs k can) s w) := by
  obtain ⟨i0, hi, hz0, hz1, hz2⟩ := info_parts info_bool
  have HI := Lib.hid hi
  have HZ0 := Lib.hid hz0
  have HZ1 := Lib.hid hz1
  have HZ2 := Lib.hid hz2
  have HNIL := Lib.hid hnil
  have HX := Lib.hid hx
  have HY := Lib.hid hy
  have hc := ((Whole.fresh w 39 #[.slice A n c0, .slice (some ⟨b, o, none⟩) n d, .int .i64 s]).alloc (.cells #[.slice none 0 0, .slice none 0 0, .int .i64 0] 39))
  have hr := Whole.fresh (w.alloc (.cells #[.slice A n c0, .slice (some ⟨b, o, none⟩) n d, .int .i64 s] 39)) 39 #[.slice none 0 0, .slice none 0 0, .int .i64 0]
  rw [World.size_alloc] at hr
  have ht := below2 w (.cells #[.slice A n c0, .slice (some ⟨b, o, none⟩) n d, .int .i64 s] 39) (.cells #[.slice none 0 0, .slice none 0 0, .int .i64 0] 39)
  obtain ⟨d0, hd0, hTL⟩ := tailB_at (w := w) (k := k) (c := d) hB hy hd
  have HTA := Lib.hid hd0
  have HTL := Lib.hid hTL
  have hHD : ∀ j u, (bits (bs.take k))[j]? = some u → w.cell? ⟨b, o + j, none⟩ = some u := fun j u hu => hB j u (by simp only [bits, List.getElem?_map, List.getElem?_take] at hu ⊢; split at hu; exact hu; simp at hu)
  have HHD := Lib.hid hHD
  have HKL := Lib.hid (show (bits (bs.take k)).length = k * 1 by simp [bits]; omega)
  clear hi hz0 hz1 hz2 hx hy hTL hHD hB
  go_enter Try.func99, Try.ntmps99
  go_upto_region 1 with fail
  generalize World.alloc (World.alloc w (.cells #[.slice A n c0, .slice (some ⟨b, o, none⟩) n d, .int .i64 s] 39)) (.cells #[.slice none 0 0, .slice none 0 0, .int .i64 0] 39) = w1 at hc hr ht ⊢
  obtain ⟨c1, c2, c3⟩ := hc.cells3
  have hlc := hc.lt
  have hlr := hr.lt
  have hz1 := ht.size
  have K1 := Lib.hid (hc.alloc (.cells #[.bool can] 4))
  have K2 := Lib.hid (hr.alloc (.cells #[.bool can] 4))
  have K3 := Lib.hid (ht.alloc ht.size (.cells #[.bool can] 4))
  have HCN := Lib.hid (cell_one_new w1 (.bool can) 4)
  have HMAX := Lib.hid (show k + 1 ≤ maxLen by unfold maxLen; omega)
  have HBYT := Lib.hid (show (k + 1) * 1 ≤ 140737488355328 by omega)
  have HOL : Hid (∀ b' : Addr, (some ⟨b, o, none⟩ : Option Addr) = some b' → ∀ j u, (bits (bs.take k))[j]? = some u → (w1.alloc (.cells #[.bool can] 4)).cell? (b'.add j) = some u) := fun b' hb' j u hu => by
    obtain rfl : (⟨b, o, none⟩ : Addr) = b' := by simpa using hb'
    rw [show (⟨b, o, none⟩ : Addr).add j = ⟨b, o + j, none⟩ from by unfold Addr.add; split <;> simp_all]
    exact (K3.out.cell (p := ⟨b, o + j, none⟩) hbl).trans (HHD.out j u hu)
  clear hc hr ht
  go_upto_region 2 with (at_builtin; refine wpList_append_grows _ rfl (.tmp 12) (.tmp 14) 34 rfl 4 i0 (.bool false) 1 1 Try.underlying34 HI.out HZ0.out HZ1.out HZ2.out rfl (by decide) (some ⟨b, o, none⟩) k k (bits (bs.take k)) rfl (fun h => by cases h) HKL.out HOL.out ⟨w1.heap.size, 0, none⟩ 1 1 [.bool can] rfl rfl HCN.out (by simp [Value.oneCell']) (by omega) HMAX.out HBYT.out ?_; intro v' w2 hown hg)
  have hzz := World.size_alloc w1 (.cells #[.bool can] 4)
  rw [hzz] at hown
  obtain ⟨g2, e2, rfl⟩ := own_form hown
  have hc := whole_apart K1.out hg (by simp)
  have hr := whole_apart K2.out hg (by simp)
  have ht := K3.out.grown hg (by have := K3.out.size; omega) (fun x hx => by cases hx)
  have hg2 := hg.size
  obtain ⟨c1, c2, c3⟩ := hc.cells3
  have hlc := hc.lt
  have HOWN := Lib.hid hown
  have HMAX2 := Lib.hid (show k + 1 + (n - (k + 1)) ≤ maxLen by unfold maxLen; omega)
  have HBYT2 := Lib.hid (show (k + 1 + (n - (k + 1))) * 1 ≤ 140737488355328 by omega)
  have HB2 := Lib.hid (show w1.heap.size + 1 ≤ w2.heap.size by omega)
  have HTL2 : Hid (∀ j u, (bits (bs.drop (k + 1)))[j]? = some u → w2.cell? ((⟨b, d0, none⟩ : Addr).add j) = some u) := fun j u hu => by
    rw [show (⟨b, d0, none⟩ : Addr).add j = ⟨b, d0 + j, none⟩ from by unfold Addr.add; split <;> simp_all]
    exact (ht.cell (p := ⟨b, d0 + j, none⟩) hbl).trans (HTL.out j u hu)
  have HDL := Lib.hid (show (bits (bs.drop (k + 1))).length = (n - (k + 1)) * 1 by have := HY.out; simp [bits]; omega)
  have HONE : Hid (∀ u ∈ bits (bs.drop (k + 1)), u.oneCell' = true) := bits_one _
  have HC := Lib.hid hc
  have HR := Lib.hid hr
  have HT := Lib.hid ht
  clear hown hg K1 K2 K3 HCN HMAX HBYT HOL hc hr ht hzz hg2
  go_upto_region 3 with (at_builtin; refine wpList_append_own _ rfl (.tmp 16) (.tmp 21) 34 rfl (w1.heap.size + 1) 4 i0 (.bool false) 1 1 Try.underlying34 HI.out HZ0.out HZ1.out HZ2.out rfl (by decide) (.slice (some ⟨g2, 0, none⟩) (k + 1) e2) (k + 1) (bits (bs.take k) ++ [.bool can]) rfl HOWN.out ⟨b, d0, none⟩ (n - (k + 1)) (d - (k + 1)) (bits (bs.drop (k + 1))) rfl HDL.out HTL2.out HONE.out HMAX2.out HBYT2.out HB2.out ?_; intro v' w3 hown hg _)
  rw [show k + 1 + (n - (k + 1)) = n by omega, show bits (bs.take k) ++ [.bool can] ++ bits (bs.drop (k + 1)) = bits (rowsSet bs k can) by simp [bits, rowsSet]] at hown
  have hown' := hown
  rw [show n = n - 1 + 1 by omega] at hown'
  obtain ⟨g3, e3, hv⟩ := own_form hown'
  rw [show n - 1 + 1 = n by omega] at hv
  subst hv
  clear hown'
  have hrr : ∀ x, (Value.slice (some ⟨g2, 0, none⟩) (k + 1) e2).ownBlock = some x → w1.heap.size + 1 ≤ x := fun x hx => (HOWN.out.lt x hx).1
  have hc := whole_grown HC.out hg hrr (by omega)
  have hr := whole_grown HR.out hg hrr (by omega)
  have ht := HT.out.grown hg (by have := HT.out.size; omega) (fun x hx => by have := hrr x hx; omega)
  have hg3 := hg.size
  clear hg hrr c1 c2 c3 HOWN HC HR HT HTL2 HDL HONE HMAX2 HBYT2
  go_wp2_with fail
  refine wp_region_held_drew (S := (Box3 w.heap.size (.slice A n c0) (.slice (some ⟨b, o, none⟩) n d) (.int .i64 s))) (by kernel_rfl) (box3_of hc.drew) (fun hHeld => ?_)
  replace hc := hc.drew
  replace hr := hr.drew
  replace ht := ht.drew
  replace hown : (World.drew w3).ownsRow (w1.heap.size + 1) 4 1 (.slice (some ⟨g3, 0, none⟩) n e3) n (bits (rowsSet bs k can)) := hown
  generalize World.drew w3 = wd at hc hr ht hown hHeld ⊢
  have HWD := Lib.hid ht.size
  refine wpAnyH_take (i := 0) (v := ?_) rfl (by kernel_rfl) (by kernel_rfl) (by kernel_rfl) (fun _ _ _ h => h) (Or.inl ⟨rfl, ?_⟩) hHeld ?_
  rotate_left
  · intro w' hS; obtain ⟨s0, s1, s2⟩ := hS; go_simp <;> with_reducible rfl
  simp only [Act.put, List.getElem_toArray, List.getElem_cons_succ, List.getElem_cons_zero, List.setIfInBounds_toArray, List.set_cons_succ, List.set_cons_zero]
  refine wpAnyH_take (i := 1) (v := ?_) rfl (by kernel_rfl) (by kernel_rfl) (by kernel_rfl) (fun _ _ _ h => h) (Or.inl ⟨rfl, ?_⟩) hHeld ?_
  rotate_left
  · intro w' hS; obtain ⟨s0, s1, s2⟩ := hS; go_simp <;> with_reducible rfl
  simp only [Act.put, List.getElem_toArray, List.getElem_cons_succ, List.getElem_cons_zero, List.setIfInBounds_toArray, List.set_cons_succ, List.set_cons_zero]
  refine wpAnyH_take (i := 3) (v := ?_) rfl (by kernel_rfl) (by kernel_rfl) (by kernel_rfl) (fun _ _ _ h => h) (Or.inl ⟨rfl, ?_⟩) hHeld ?_
  rotate_left
  · intro w' hS; obtain ⟨s0, s1, s2⟩ := hS; go_simp <;> with_reducible rfl
  simp only [Act.put, List.getElem_toArray, List.getElem_cons_succ, List.getElem_cons_zero, List.setIfInBounds_toArray, List.set_cons_succ, List.set_cons_zero]
  refine wpAnyH_take (i := 4) (v := ?_) rfl (by kernel_rfl) (by kernel_rfl) (by kernel_rfl) (fun _ _ _ h => h) (Or.inl ⟨rfl, ?_⟩) hHeld ?_
  rotate_left
  · intro w' hS; obtain ⟨s0, s1, s2⟩ := hS; go_simp <;> with_reducible rfl
  simp only [Act.put, List.getElem_toArray, List.getElem_cons_succ, List.getElem_cons_zero, List.setIfInBounds_toArray, List.set_cons_succ, List.set_cons_zero]
  refine wpAnyH_take (i := 5) (v := ?_) rfl (by kernel_rfl) (by kernel_rfl) (by kernel_rfl) (fun _ _ _ h => h) (Or.inl ⟨rfl, ?_⟩) hHeld ?_
  rotate_left
  · intro w' hS; obtain ⟨s0, s1, s2⟩ := hS; go_simp <;> with_reducible rfl
  simp only [Act.put, List.getElem_toArray, List.getElem_cons_succ, List.getElem_cons_zero, List.setIfInBounds_toArray, List.set_cons_succ, List.set_cons_zero]
  refine wpAnyH_ready (rs := [2]) (by kernel_rfl) (by simp) (AllReadyH.cons rfl (fun K hK => ?_) AllReadyH.nil)
  go_simp
  refine (cloneO_any A n c0 xs _ (by exact hA.below ht) HX.out (by omega) HNIL.out).mono ?_
  rintro e w4 ⟨E, e2, rfl, hE, hb⟩
  rw [HX.out] at hE ⊢
  replace hc := hc.below hb
  replace hr := hr.below hb
  replace hown := ownsRow_below hown hb
  have hz4 := hb.size
  replace ht := below_then ht hb ht.size
  clear hb
  refine hK.out _ _ (box3_of hc) (fun hHeld => ?_)
  clear hK K
  try simp only [Act.put, List.getElem_toArray, List.getElem_cons_succ, List.getElem_cons_zero, List.setIfInBounds_toArray, List.set_cons_succ, List.set_cons_zero]
  refine wpAnyH_take (i := 6) (v := ?_) rfl (by kernel_rfl) (by kernel_rfl) (by kernel_rfl) (fun _ _ _ h => h) (Or.inl ⟨rfl, ?_⟩) hHeld ?_
  rotate_left
  · intro w' hS; obtain ⟨s0, s1, s2⟩ := hS; go_simp <;> with_reducible rfl
  simp only [Act.put, List.getElem_toArray, List.getElem_cons_succ, List.getElem_cons_zero, List.setIfInBounds_toArray, List.set_cons_succ, List.set_cons_zero]
  refine wpAnyH_ready (rs := [7]) (by kernel_rfl) (by simp) (AllReadyH.cons rfl (fun K hK => ?_) AllReadyH.nil)
  refine wp_store_row 39 (.tmp 6) (.tmp 29) rfl (w.heap.size + 1) #[.slice E n e2, .slice (some ⟨g3, 0, none⟩) n e3, .int .i64 s] rfl rfl 39 #[.slice none 0 0, .slice none 0 0, .int .i64 0] hr size_crew rfl (by simp [Value.oneCell']) ?_
  have o9 := only_setRow w4 (w.heap.size + 1) #[.slice E n e2, .slice (some ⟨g3, 0, none⟩) n e3, .int .i64 s]
  have x9 := whole_setRow #[.slice E n e2, .slice (some ⟨g3, 0, none⟩) n e3, .int .i64 s] hr
  have e9 := own_only hE o9 hr (by decide)
  have f9 := own_only hown o9 hr (by decide)
  have c9 := o9.whole hc (by omega)
  have t9 := o9.below ht (by omega)
  generalize World.setRow w4 (w.heap.size + 1) #[.slice E n e2, .slice (some ⟨g3, 0, none⟩) n e3, .int .i64 s] = w9 at o9 x9 e9 f9 c9 t9 ⊢
  refine hK.out _ _ (box3_of c9) (fun hHeld => ?_)
  clear hK K
  try simp only [Act.put, List.getElem_toArray, List.getElem_cons_succ, List.getElem_cons_zero, List.setIfInBounds_toArray, List.set_cons_succ, List.set_cons_zero]
  refine wpAnyH_done (by kernel_rfl) ?_ _
  clear hHeld
  obtain ⟨r0, r1, r2⟩ := x9.cells3
  have hfe := (Fresh.of_own' e9)
  have hff := (Fresh.of_own' f9)
  have HFE := Lib.hid hfe
  have HFF := Lib.hid hff
  have hs9 := o9.size
  have hlen : (rowsSet bs k can).length = n := by rw [rowsSet_len (by have := HY.out; omega)]; exact HY.out
  have HLEN := Lib.hid hlen
  clear hfe hff
  go_wp2
  refine bodyPost_ret (v := .agg #[.slice E n e2, .slice (some ⟨g3, 0, none⟩) n e3, .int .i64 s]) (by simp [results, Try.results99, go_sem, r0, r1, r2]) rfl ⟨E, e2, _, e3, by rw [HX.out, HLEN.out], HFE.out.more HWD.out (Nat.le_refl _), HFF.out.more (by omega) (Nat.le_refl _), t9⟩

theorem Fresh.only_ne {w w' : World} {lo hi g : Nat} {ty t : TypeId} {A : Option Addr} {xs : List Value} {cs : Array Value} (hf : Fresh w lo hi ty A xs) (ho : Only g w w') (hb : Whole w g t cs) (hn : t ≠ ty) : Fresh w' lo hi ty A xs := by
  rcases hf with rfl | ⟨q, cs', hA, h1, h2, hw, h3, h4⟩
  · exact .inl rfl
  · exact .inr ⟨q, cs', hA, h1, h2, ho.whole hw (whole_ne hw hb (fun e => hn e.symm)), h3, h4⟩
/-- What teaching comes to. -/
def teachOk (xs : List Int) (bs : List Bool) (s : Int) (k : Int) : Bool := isCrew xs bs.length s && (decide (0 ≤ k) && decide (k < xs.length))
def teachNums (xs : List Int) (bs : List Bool) (s : Int) (k : Int) : List Int := if teachOk xs bs s k then xs else []
def teachRows (xs : List Int) (bs : List Bool) (s : Int) (k : Int) : List Bool := if teachOk xs bs s k then rowsSet bs k.toNat true else []
def teachMost (xs : List Int) (bs : List Bool) (s : Int) (k : Int) : Int := if teachOk xs bs s k then s else 0
theorem teach_no {xs : List Int} {bs : List Bool} {s k : Int} (h : teachOk xs bs s k = false) : teachOk xs bs s k = false ∧ teachNums xs bs s k = [] ∧ teachRows xs bs s k = [] ∧ teachMost xs bs s k = 0 := ⟨h, by simp [teachNums, h], by simp [teachRows, h], by simp [teachMost, h]⟩
theorem teach_yes {xs : List Int} {bs : List Bool} {s k : Int} (h : teachOk xs bs s k = true) : teachOk xs bs s k = true ∧ teachNums xs bs s k = xs ∧ teachRows xs bs s k = rowsSet bs k.toNat true ∧ teachMost xs bs s k = s := ⟨h, by simp [teachNums, h], by simp [teachRows, h], by simp [teachMost, h]⟩
theorem teach_le {xs : List Int} {bs : List Bool} {s k : Int} (hx : xs.length ≤ 1048576) (hy : bs.length ≤ 1048576) : (teachNums xs bs s k).length ≤ 1048576 ∧ (teachRows xs bs s k).length ≤ 1048576 := by
  cases h : teachOk xs bs s k
  · obtain ⟨-, h1, h2, -⟩ := teach_no h
    rw [h1, h2]; simp
  · obtain ⟨-, h1, h2, -⟩ := teach_yes h
    have hk : k.toNat < bs.length := by
      simp only [teachOk, Bool.and_eq_true, decide_eq_true_eq] at h
      have := (isCrew_ok h.1).rows
      omega
    rw [h1, h2, rowsSet_len hk]
    exact ⟨hx, hy⟩
/-- What TeachPerson hands back. -/
def CrewOkPost (xs : List Int) (bs : List Bool) (s : Int) (ok : Bool) (w : World) (e : Ending) (w' : World) : Prop :=
  ∃ (E : Option Addr) (c1 : Nat) (F : Option Addr) (c2 : Nat), e = .returned (.tuple #[.agg #[.slice E xs.length c1, .slice F bs.length c2, .int .i64 s], .bool ok]) ∧ Fresh w' w.heap.size w'.heap.size 3 E (nums xs) ∧ Fresh w' w.heap.size w'.heap.size 4 F (bits bs) ∧ Below w.heap.size w w'

set_option maxHeartbeats 3200000 in
set_option maxRecDepth 100000 in
set_option linter.unusedVariables false in
theorem implTeachPerson_any (A : Option Addr) (n : Nat) (B : Option Addr) (m : Nat) (xs : List Int) (bs : List Bool) (s : Int) (k : Int) (w : World) (hA : Holds w A (nums xs)) (hB : Holds w B (bits bs)) (hx : xs.length = n) (hy : bs.length = m) (hn : n ≤ 1048576) (hm : m ≤ 1048576) (hnil : A = none → n = 0) :
    Calls Try.prog 57 #[.agg #[.slice A n n, .slice B m m, .int .i64 s], .int .i64 k] w (CrewOkPost (teachNums xs bs s k) (teachRows xs bs s k) (teachMost xs bs s k) (teachOk xs bs s k) w) := by
  have HX := Lib.hid hx
  have HY := Lib.hid hy
  have hc := ((Whole.fresh w 39 #[.slice A n n, .slice B m m, .int .i64 s]).alloc (.cells #[.slice none 0 0, .slice none 0 0, .int .i64 0] 39))
  have hr := Whole.fresh (w.alloc (.cells #[.slice A n n, .slice B m m, .int .i64 s] 39)) 39 #[.slice none 0 0, .slice none 0 0, .int .i64 0]
  rw [World.size_alloc] at hr
  have ht := below2 w (.cells #[.slice A n n, .slice B m m, .int .i64 s] 39) (.cells #[.slice none 0 0, .slice none 0 0, .int .i64 0] 39)
  have HNO : Hid (teachOk xs bs s k = false → CrewOkPost (teachNums xs bs s k) (teachRows xs bs s k) (teachMost xs bs s k) (teachOk xs bs s k) w = CrewOkPost [] [] 0 false w) := fun h => by
    obtain ⟨a, b, c, d⟩ := teach_no h
    rw [a, b, c, d]
  cases hp : isCrew xs m s
  · have HP := Lib.hid hp
    rw [HNO.out (by simp [teachOk, hy, hp])]
    clear hp hx hy HNO
    go_enter Try.func57, Try.ntmps57
    go_wp2_with fail
    refine (isCrew_any A n n B m m xs s _ (by exact hA.below ht) HX.out (by omega)).mono ?_
    rintro e w1 ⟨rfl, hb⟩
    rw [HP.out]
    replace ht := below_then ht hb ht.size
    replace hr := hr.below hb
    have hrl := hr.lt
    obtain ⟨r0, r1, r2⟩ := hr.cells3
    have f0 := hr.open_ 0
    have f1 := hr.open_ 1
    have f2 := hr.open_ 2
    clear hb hc
    go_wp2
    refine bodyPost_ret (v := .tuple #[.agg #[.slice none 0 0, .slice none 0 0, .int .i64 0], .bool false]) (by simp [results, Try.results57, go_sem, r0, r1, r2]) rfl ⟨none, 0, none, 0, rfl, .inl rfl, .inl rfl, below_set (below_set (below_set ht (by omega)) (by omega)) (by omega)⟩
  have HP := Lib.hid hp
  have hok := isCrew_ok hp
  have hmn : m = n := by have := hok.rows; omega
  have h7 := hok.seven
  have h1 := hok.one
  rcases (show k < 0 ∨ (¬ k < 0 ∧ (m : Int) ≤ k) ∨ (¬ k < 0 ∧ ¬ (m : Int) ≤ k) by omega) with hk | ⟨hk, hkn⟩ | ⟨hk, hkn⟩
  iterate 2
    · rw [HNO.out (by simp only [teachOk, Bool.and_eq_false_iff, decide_eq_false_iff_not]; omega)]
      clear hp hx hy HNO hok hmn h7 h1
      go_enter Try.func57, Try.ntmps57
      go_wp2_with fail
      refine (isCrew_any A n n B m m xs s _ (by exact hA.below ht) HX.out (by omega)).mono ?_
      rintro e w1 ⟨rfl, hb⟩
      rw [HP.out]
      replace ht := below_then ht hb ht.size
      replace hr := hr.below hb
      have hrl := hr.lt
      obtain ⟨c0, c1, c2⟩ := (hc.below hb).cells3
      obtain ⟨r0, r1, r2⟩ := hr.cells3
      have f0 := hr.open_ 0
      have f1 := hr.open_ 1
      have f2 := hr.open_ 2
      clear hb hc
      go_wp2
      refine bodyPost_ret (v := .tuple #[.agg #[.slice none 0 0, .slice none 0 0, .int .i64 0], .bool false]) (by simp [results, Try.results57, go_sem, r0, r1, r2]) rfl ⟨none, 0, none, 0, rfl, .inl rfl, .inl rfl, below_set (below_set (below_set ht (by omega)) (by omega)) (by omega)⟩
  obtain ⟨kk, rfl⟩ : ∃ kk : Nat, k = kk := ⟨k.toNat, by omega⟩
  subst hmn
  have htk : teachOk xs bs s kk = true := by simp [teachOk, hy, hp]; omega
  obtain ⟨q1, q2, q3, q4⟩ := teach_yes htk
  rw [q1, q2, q3, q4, Int.toNat_natCast]
  rcases hB with hnl | ⟨b, o, rfl, hbl, hcell⟩
  · exfalso
    have := congrArg List.length hnl
    rw [bits_len, hy] at this
    simp at this
    omega
  have HNIL : Hid (A = none → m = 0 ∧ m = 0) := fun h => ⟨hnil h, hnil h⟩
  have h17 : 1 ≤ m ∧ m ≤ 7 := by omega
  clear hp hx hy HNO hok h7 h1 htk q1 q2 q3 q4 hnil
  go_enter Try.func57, Try.ntmps57
  go_wp2_with fail
  refine (isCrew_any A m m _ m m xs s _ (by exact hA.below ht) HX.out (by omega)).mono ?_
  rintro e w1 ⟨rfl, hb⟩
  rw [HP.out]
  replace ht := below_then ht hb ht.size
  replace hr := hr.below hb
  obtain ⟨c0, c1, c2⟩ := (hc.below hb).cells3
  have hrl := hr.lt
  clear hb hc
  go_wp2_with fail
  refine (withRower_any A m m b o m xs bs s kk true w1 (hA.below ht) (fun j u hu => (ht.cell (p := ⟨b, o + j, none⟩) hbl).trans (hcell j u hu)) (Nat.lt_of_lt_of_le hbl ht.size) HX.out HY.out h17.1 h17.2 (by omega) (Nat.le_refl _) (by omega) HNIL.out).mono ?_
  rintro e w2 ⟨E, e1, F, e2, rfl, hE, hF, hb⟩
  have hw1 := ht.size
  have hr2 := hr.below hb
  have HE := Lib.hid (hE.more hw1 (Nat.le_refl _))
  have HF := Lib.hid (hF.more hw1 (Nat.le_refl _))
  have HT := Lib.hid (below_then ht hb hw1)
  clear hE hF hb c0 c1 c2 hr
  have hS1 := hr2.set_ 0 (.slice E xs.length e1)
  have hS2 := hS1.set_ 1 (.slice F (rowsSet bs kk true).length e2)
  have HE3 := Lib.hid (((HE.out.set_ne (o := 0) (u := .slice E xs.length e1) hr2 (by decide)).set_ne (o := 1) (u := .slice F (rowsSet bs kk true).length e2) hS1 (by decide)).set_ne (o := 2) (u := .int .i64 s) hS2 (by decide))
  have HF3 := Lib.hid (((HF.out.set_ne (o := 0) (u := .slice E xs.length e1) hr2 (by decide)).set_ne (o := 1) (u := .slice F (rowsSet bs kk true).length e2) hS1 (by decide)).set_ne (o := 2) (u := .int .i64 s) hS2 (by decide))
  obtain ⟨r0, r1, r2⟩ := hr2.cells3
  have f0 := hr2.open_ 0
  have f1 := hr2.open_ 1
  have f2 := hr2.open_ 2
  clear hS1 hS2 hr2
  go_wp2
  refine bodyPost_ret (v := .tuple #[.agg #[.slice E xs.length e1, .slice F (rowsSet bs kk true).length e2, .int .i64 s], .bool true]) (by simp [results, Try.results57, go_sem, r0, r1, r2]) rfl ⟨E, e1, F, e2, rfl, ?_, ?_, below_set (below_set (below_set HT.out (by omega)) (by omega)) (by omega)⟩
  · have h := HE3.out
    simpa [World.setCell] using h
  · have h := HF3.out
    simpa [World.setCell] using h
end Go.Proofs.Ytoedcieofjcgkaa

namespace Go.Proofs.Ytoedcieofjcgkaa
open Go.RowKit

/-- What stands behind the copies. -/
def TeachCut (w : World) (n : Nat) (s : Int) (xs : List Int) (bs : List Bool) (s6 : Value) (wx : World) : Prop :=
  ∃ (gx : Nat) (E : Option Addr) (e2 g3 e3 : Nat), s6 = .pointer (some ⟨gx, 0, none⟩) ∧ Whole wx gx 39 #[.slice E n e2, .slice (some ⟨g3, 0, none⟩) n e3, .int .i64 s] ∧ wx.ownsRow w.heap.size 3 1 (.slice E n e2) n (nums xs) ∧ wx.ownsRow w.heap.size 4 1 (.slice (some ⟨g3, 0, none⟩) n e3) n (bits bs) ∧ Whole wx (w.heap.size + 1) 39 #[.slice none 0 0, .slice none 0 0, .int .i64 0] ∧ w.heap.size + 1 < gx ∧ Below w.heap.size w wx

set_option maxHeartbeats 12800000 in
set_option maxRecDepth 100000 in
set_option linter.unusedVariables false in
set_option linter.unusedSimpArgs false in
theorem specTeach_on (A : Option Addr) (n b o d : Nat) (xs : List Int) (bs : List Bool) (s : Int) (k : Nat) (w : World) (hA : Holds w A (nums xs)) (hcell : ∀ j u, (bits bs)[j]? = some u → w.cell? ⟨b, o + j, none⟩ = some u) (hbl : b < w.heap.size) (hx : xs.length = n) (hy : bs.length = n) (hp : isCrew xs n s = true) (h1 : 1 ≤ n) (hn7 : n ≤ 7) (hk : k < n) (hnil : A = none → n = 0) :
    Calls Try.prog 56 #[.agg #[.slice A n n, .slice (some ⟨b, o, none⟩) n d, .int .i64 s], .int .i64 k] w (CrewOkPost xs (rowsSet bs k true) s true w) := by
  obtain ⟨i0, hi, hz0, hz1, hz2⟩ := info_parts info_bool
  have HI := Lib.hid hi
  have HZ0 := Lib.hid hz0
  have HZ1 := Lib.hid hz1
  have HZ2 := Lib.hid hz2
  have HX := Lib.hid hx
  have HY := Lib.hid hy
  have HP := Lib.hid hp
  have HNIL : Hid (A = none → n = 0) := hnil
  have HCL := Lib.hid hcell
  have HBL := Lib.hid (show (bits bs).length = n * 1 by rw [bits_len]; omega)
  have HMAX := Lib.hid (show 0 + n ≤ maxLen by unfold maxLen; omega)
  have HBYT := Lib.hid (show (0 + n) * 1 ≤ 140737488355328 by omega)
  have HWI : Hid (within (k : Int) 0 ((n : Int) - 1) = true) := by show _ = _; exact within_yes (by omega) (by omega)
  have hc := ((Whole.fresh w 39 #[.slice A n n, .slice (some ⟨b, o, none⟩) n d, .int .i64 s]).alloc (.cells #[.slice none 0 0, .slice none 0 0, .int .i64 0] 39))
  have hr := Whole.fresh (w.alloc (.cells #[.slice A n n, .slice (some ⟨b, o, none⟩) n d, .int .i64 s] 39)) 39 #[.slice none 0 0, .slice none 0 0, .int .i64 0]
  rw [World.size_alloc] at hr
  have ht := below2 w (.cells #[.slice A n n, .slice (some ⟨b, o, none⟩) n d, .int .i64 s] 39) (.cells #[.slice none 0 0, .slice none 0 0, .int .i64 0] 39)
  clear hi hz0 hz1 hz2 hx hy hp hnil hcell
  go_enter Try.func56, Try.ntmps56
  go_wp2_with fail
  refine (loGood_any A n n _ n d xs s _ (by exact hA.below ht) HX.out (by omega)).mono ?_
  rintro e w1 ⟨rfl, hb⟩
  rw [HP.out]
  replace ht := below_then ht hb ht.size
  replace hc := hc.below hb
  replace hr := hr.below hb
  obtain ⟨c0, c1, c2⟩ := hc.cells3
  clear hb
  go_wp2_with fail
  refine (l1In_any _ _ _ _).mono ?_
  rintro e w' ⟨rfl, rfl⟩
  rw [HWI.out]
  have HRL := Lib.hid hr.lt
  clear c0 c1 c2
  go_upto_region 3 with fail
  go_cut [6] (fun s6 wx => TeachCut w n s xs bs s6 wx)
  case first =>
    go_wp2_with fail
    refine wp_region_held_drew (S := (Box3 w.heap.size (.slice A n n) (.slice (some ⟨b, o, none⟩) n d) (.int .i64 s))) (by kernel_rfl) (box3_of hc.drew) (fun hHeld => ?_)
    replace hc := hc.drew
    replace hr := hr.drew
    replace ht := ht.drew
    generalize World.drew w1 = w0 at hc hr ht hHeld ⊢
    refine wpAnyH_take (i := 0) (v := ?_) rfl (by kernel_rfl) (by kernel_rfl) (by kernel_rfl) (fun _ _ _ h => h) (Or.inl ⟨rfl, ?_⟩) hHeld ?_
    rotate_left
    · intro w' hS; obtain ⟨s0, s1, s2⟩ := hS; go_simp <;> with_reducible rfl
    simp only [Act.put, List.getElem_toArray, List.getElem_cons_succ, List.getElem_cons_zero, List.setIfInBounds_toArray, List.set_cons_succ, List.set_cons_zero]
    refine wpAnyH_take (i := 1) (v := ?_) rfl (by kernel_rfl) (by kernel_rfl) (by kernel_rfl) (fun _ _ _ h => h) (Or.inl ⟨rfl, ?_⟩) hHeld ?_
    rotate_left
    · intro w' hS; obtain ⟨s0, s1, s2⟩ := hS; go_simp <;> with_reducible rfl
    simp only [Act.put, List.getElem_toArray, List.getElem_cons_succ, List.getElem_cons_zero, List.setIfInBounds_toArray, List.set_cons_succ, List.set_cons_zero]
    refine wpAnyH_take (i := 4) (v := ?_) rfl (by kernel_rfl) (by kernel_rfl) (by kernel_rfl) (fun _ _ _ h => h) (Or.inl ⟨rfl, ?_⟩) hHeld ?_
    rotate_left
    · intro w' hS; obtain ⟨s0, s1, s2⟩ := hS; go_simp <;> with_reducible rfl
    simp only [Act.put, List.getElem_toArray, List.getElem_cons_succ, List.getElem_cons_zero, List.setIfInBounds_toArray, List.set_cons_succ, List.set_cons_zero]
    refine wpAnyH_take (i := 5) (v := ?_) rfl (by kernel_rfl) (by kernel_rfl) (by kernel_rfl) (fun _ _ _ h => h) (Or.inl ⟨rfl, ?_⟩) hHeld ?_
    rotate_left
    · intro w' hS; obtain ⟨s0, s1, s2⟩ := hS; go_simp <;> with_reducible rfl
    simp only [Act.put, List.getElem_toArray, List.getElem_cons_succ, List.getElem_cons_zero, List.setIfInBounds_toArray, List.set_cons_succ, List.set_cons_zero]
    refine wpAnyH_take (i := 7) (v := ?_) rfl (by kernel_rfl) (by kernel_rfl) (by kernel_rfl) (fun _ _ _ h => h) (Or.inl ⟨rfl, ?_⟩) hHeld ?_
    rotate_left
    · intro w' hS; obtain ⟨s0, s1, s2⟩ := hS; go_simp <;> with_reducible rfl
    simp only [Act.put, List.getElem_toArray, List.getElem_cons_succ, List.getElem_cons_zero, List.setIfInBounds_toArray, List.set_cons_succ, List.set_cons_zero]
    refine wpAnyH_take (i := 8) (v := ?_) rfl (by kernel_rfl) (by kernel_rfl) (by kernel_rfl) (fun _ _ _ h => h) (Or.inl ⟨rfl, ?_⟩) hHeld ?_
    rotate_left
    · intro w' hS; obtain ⟨s0, s1, s2⟩ := hS; go_simp <;> with_reducible rfl
    simp only [Act.put, List.getElem_toArray, List.getElem_cons_succ, List.getElem_cons_zero, List.setIfInBounds_toArray, List.set_cons_succ, List.set_cons_zero]
    refine wpAnyH_ready (rs := [2, 3, 10]) (by kernel_rfl) (by simp) (AllReadyH.cons rfl (fun K hK => ?_) (AllReadyH.cons rfl (fun K hK => ?_) (AllReadyH.cons rfl (fun K hK => ?_) AllReadyH.nil)))
    · go_simp
      refine (l1Own_any A n n xs _ (by exact hA.below ht) HX.out (by omega) HNIL.out).mono ?_
      rintro e wzl ⟨E, e2, rfl, hE, hb⟩
      rw [HX.out] at hE ⊢
      replace hc := hc.below hb
      replace hr := hr.below hb
      have HB2 := Lib.hid ht.size
      have hz2 := hb.size
      replace ht := below_then ht hb ht.size
      clear hb
      refine hK.out _ _ (box3_of hc) (fun hHeld => ?_)
      clear hK K
      try simp only [Act.put, List.getElem_toArray, List.getElem_cons_succ, List.getElem_cons_zero, List.setIfInBounds_toArray, List.set_cons_succ, List.set_cons_zero]
      refine wpAnyH_ready (rs := [3, 10]) (by kernel_rfl) (by simp) (AllReadyH.cons rfl (fun K hK => ?_) (AllReadyH.cons rfl (fun K hK => ?_) AllReadyH.nil))
      · go_simp
        have HB3 := Lib.hid ht.size
        have HRW3 := Lib.hid hr.lt
        replace hc := hc.alloc (.cells #[] 4)
        replace hr := hr.alloc (.cells #[] 4)
        replace hE := hE.alloc (.cells #[] 4)
        replace ht := ht.alloc ht.size (.cells #[] 4)
        generalize World.alloc wzl (.cells #[] 4) = wzle at hc hr hE ht  ⊢
        refine hK.out _ _ (box3_of hc) (fun hHeld => ?_)
        clear hK K
        try simp only [Act.put, List.getElem_toArray, List.getElem_cons_succ, List.getElem_cons_zero, List.setIfInBounds_toArray, List.set_cons_succ, List.set_cons_zero]
        refine wpAnyH_ready (rs := [6, 10]) (by kernel_rfl) (by simp) (AllReadyH.cons rfl (fun K hK => ?_) (AllReadyH.cons rfl (fun K hK => ?_) AllReadyH.nil))
        · have HNW : Hid (∀ j u, (bits bs)[j]? = some u → wzle.cell? ((⟨b, o, none⟩ : Addr).add j) = some u) := fun j u hu => by rw [show (⟨b, o, none⟩ : Addr).add j = ⟨b, o + j, none⟩ from by unfold Addr.add; split <;> simp_all]; exact (ht.cell (p := ⟨b, o + j, none⟩) hbl).trans (HCL.out j u hu)
          refine step_append_grows rfl (.tmp 23) (.tmp 25) 34 rfl 4 i0 (.bool false) 1 1 Try.underlying34 HI.out HZ0.out HZ1.out HZ2.out rfl (by decide) (some ⟨wzl.heap.size, 0, none⟩) 0 0 [] (by simp [Act.eval]) (fun h => by cases h) rfl (fun _ _ j u hu => by simp at hu) ⟨b, o, none⟩ n d (bits bs) (by simp [Act.eval]) HBL.out HNW.out (bits_one _) (by omega) HMAX.out HBYT.out ?_
          intro v' wzlep hown hg
          rw [show 0 + n = n - 1 + 1 by omega] at hown
          obtain ⟨g3, e3, hv⟩ := own_form hown
          rw [show n - 1 + 1 = n by omega] at hv hown
          subst hv
          rw [List.nil_append] at hown
          have HB6 := Lib.hid ht.size
          have hz6 := hg.size
          replace hc := whole_apart hc hg (by simp)
          replace hr := whole_apart hr hg (by simp)
          replace hE := hE.kept hg (Classical.em _)
          replace ht := ht.grown hg ht.size (fun x hx => by cases hx)
          clear hg
          refine hK.out _ _ (box3_of hc) (fun hHeld => ?_)
          clear hK K
          try simp only [Act.put, List.getElem_toArray, List.getElem_cons_succ, List.getElem_cons_zero, List.setIfInBounds_toArray, List.set_cons_succ, List.set_cons_zero]
          refine wpAnyH_take (i := 9) (v := ?_) rfl (by kernel_rfl) (by kernel_rfl) (by kernel_rfl) (fun _ _ _ h => h) (Or.inl ⟨rfl, ?_⟩) hHeld ?_
          rotate_left
          · intro w' hS; obtain ⟨s0, s1, s2⟩ := hS; go_simp <;> with_reducible rfl
          simp only [Act.put, List.getElem_toArray, List.getElem_cons_succ, List.getElem_cons_zero, List.setIfInBounds_toArray, List.set_cons_succ, List.set_cons_zero]
          refine wpAnyH_ready (rs := [10]) (by kernel_rfl) (by simp) (AllReadyH.cons rfl (fun K hK => ?_) AllReadyH.nil)
          go_simp
          have HB10 := Lib.hid ht.size
          have HRW10 := Lib.hid hr.lt
          have hx := Whole.fresh wzlep 39 #[.slice none 0 0, .slice none 0 0, .int .i64 0]
          replace hc := hc.alloc (.cells #[.slice none 0 0, .slice none 0 0, .int .i64 0] 39)
          replace hr := hr.alloc (.cells #[.slice none 0 0, .slice none 0 0, .int .i64 0] 39)
          replace hE := hE.alloc (.cells #[.slice none 0 0, .slice none 0 0, .int .i64 0] 39)
          replace hown := hown.alloc (.cells #[.slice none 0 0, .slice none 0 0, .int .i64 0] 39)
          replace ht := ht.alloc ht.size (.cells #[.slice none 0 0, .slice none 0 0, .int .i64 0] 39)
          generalize World.alloc wzlep (.cells #[.slice none 0 0, .slice none 0 0, .int .i64 0] 39) = wzlepa at hc hr hE hown ht hx ⊢
          refine hK.out _ _ (box3_of hc) (fun hHeld => ?_)
          clear hK K
          try simp only [Act.put, List.getElem_toArray, List.getElem_cons_succ, List.getElem_cons_zero, List.setIfInBounds_toArray, List.set_cons_succ, List.set_cons_zero]
          refine wpAnyH_ready (rs := [11]) (by kernel_rfl) (by simp) (AllReadyH.cons rfl (fun K hK => ?_) AllReadyH.nil)
          refine wp_store_row 39 (.tmp 6) (.tmp 29) rfl (wzlep.heap.size) #[.slice E n e2, .slice (some ⟨g3, 0, none⟩) n e3, .int .i64 s] rfl rfl 39 #[.slice none 0 0, .slice none 0 0, .int .i64 0] hx size_crew rfl (by simp [Value.oneCell']) ?_
          have o9 := only_setRow wzlepa (wzlep.heap.size) #[.slice E n e2, .slice (some ⟨g3, 0, none⟩) n e3, .int .i64 s]
          have x9 := whole_setRow #[.slice E n e2, .slice (some ⟨g3, 0, none⟩) n e3, .int .i64 s] hx
          have e9 := own_only hE o9 hx (by decide)
          have f9 := own_only hown o9 hx (by decide)
          have hrn := hr.lt
          have hcn := hc.lt
          have c9 := o9.whole hc (by have := HRW10.out; omega)
          have r9 := o9.whole hr (by have := HRW10.out; omega)
          have t9 := o9.below ht (by have := HRW10.out; omega)
          generalize World.setRow wzlepa (wzlep.heap.size) #[.slice E n e2, .slice (some ⟨g3, 0, none⟩) n e3, .int .i64 s] = w9 at o9 x9 e9 f9 c9 r9 t9 ⊢
          refine hK.out _ _ (box3_of c9) (fun hHeld => ?_)
          clear hK K
          try simp only [Act.put, List.getElem_toArray, List.getElem_cons_succ, List.getElem_cons_zero, List.setIfInBounds_toArray, List.set_cons_succ, List.set_cons_zero]
          refine wpAnyH_done (by kernel_rfl) ?_ _
          clear hHeld
          go_wp2_with fail
          go_meet
          exact ⟨wzlep.heap.size, E, e2, g3, e3, rfl, x9, own_lower e9 (by have := HB2.out; omega), own_lower f9 (by have := HB6.out; omega), r9, by have := HRW10.out; omega, t9⟩
        · go_simp
          have HB10 := Lib.hid ht.size
          have HRW10 := Lib.hid hr.lt
          have hx := Whole.fresh wzle 39 #[.slice none 0 0, .slice none 0 0, .int .i64 0]
          replace hc := hc.alloc (.cells #[.slice none 0 0, .slice none 0 0, .int .i64 0] 39)
          replace hr := hr.alloc (.cells #[.slice none 0 0, .slice none 0 0, .int .i64 0] 39)
          replace hE := hE.alloc (.cells #[.slice none 0 0, .slice none 0 0, .int .i64 0] 39)
          replace ht := ht.alloc ht.size (.cells #[.slice none 0 0, .slice none 0 0, .int .i64 0] 39)
          generalize World.alloc wzle (.cells #[.slice none 0 0, .slice none 0 0, .int .i64 0] 39) = wzlea at hc hr hE ht hx ⊢
          refine hK.out _ _ (box3_of hc) (fun hHeld => ?_)
          clear hK K
          try simp only [Act.put, List.getElem_toArray, List.getElem_cons_succ, List.getElem_cons_zero, List.setIfInBounds_toArray, List.set_cons_succ, List.set_cons_zero]
          refine wpAnyH_ready (rs := [6]) (by kernel_rfl) (by simp) (AllReadyH.cons rfl (fun K hK => ?_) AllReadyH.nil)
          have HNW : Hid (∀ j u, (bits bs)[j]? = some u → wzlea.cell? ((⟨b, o, none⟩ : Addr).add j) = some u) := fun j u hu => by rw [show (⟨b, o, none⟩ : Addr).add j = ⟨b, o + j, none⟩ from by unfold Addr.add; split <;> simp_all]; exact (ht.cell (p := ⟨b, o + j, none⟩) hbl).trans (HCL.out j u hu)
          refine step_append_grows rfl (.tmp 23) (.tmp 25) 34 rfl 4 i0 (.bool false) 1 1 Try.underlying34 HI.out HZ0.out HZ1.out HZ2.out rfl (by decide) (some ⟨wzl.heap.size, 0, none⟩) 0 0 [] (by simp [Act.eval]) (fun h => by cases h) rfl (fun _ _ j u hu => by simp at hu) ⟨b, o, none⟩ n d (bits bs) (by simp [Act.eval]) HBL.out HNW.out (bits_one _) (by omega) HMAX.out HBYT.out ?_
          intro v' wzleap hown hg
          rw [show 0 + n = n - 1 + 1 by omega] at hown
          obtain ⟨g3, e3, hv⟩ := own_form hown
          rw [show n - 1 + 1 = n by omega] at hv hown
          subst hv
          rw [List.nil_append] at hown
          have HB6 := Lib.hid ht.size
          have hz6 := hg.size
          replace hc := whole_apart hc hg (by simp)
          replace hr := whole_apart hr hg (by simp)
          replace hx := whole_apart hx hg (by simp)
          replace hE := hE.kept hg (Classical.em _)
          replace ht := ht.grown hg ht.size (fun x hx => by cases hx)
          clear hg
          refine hK.out _ _ (box3_of hc) (fun hHeld => ?_)
          clear hK K
          try simp only [Act.put, List.getElem_toArray, List.getElem_cons_succ, List.getElem_cons_zero, List.setIfInBounds_toArray, List.set_cons_succ, List.set_cons_zero]
          refine wpAnyH_take (i := 9) (v := ?_) rfl (by kernel_rfl) (by kernel_rfl) (by kernel_rfl) (fun _ _ _ h => h) (Or.inl ⟨rfl, ?_⟩) hHeld ?_
          rotate_left
          · intro w' hS; obtain ⟨s0, s1, s2⟩ := hS; go_simp <;> with_reducible rfl
          simp only [Act.put, List.getElem_toArray, List.getElem_cons_succ, List.getElem_cons_zero, List.setIfInBounds_toArray, List.set_cons_succ, List.set_cons_zero]
          refine wpAnyH_ready (rs := [11]) (by kernel_rfl) (by simp) (AllReadyH.cons rfl (fun K hK => ?_) AllReadyH.nil)
          refine wp_store_row 39 (.tmp 6) (.tmp 29) rfl (wzle.heap.size) #[.slice E n e2, .slice (some ⟨g3, 0, none⟩) n e3, .int .i64 s] rfl rfl 39 #[.slice none 0 0, .slice none 0 0, .int .i64 0] hx size_crew rfl (by simp [Value.oneCell']) ?_
          have o9 := only_setRow wzleap (wzle.heap.size) #[.slice E n e2, .slice (some ⟨g3, 0, none⟩) n e3, .int .i64 s]
          have x9 := whole_setRow #[.slice E n e2, .slice (some ⟨g3, 0, none⟩) n e3, .int .i64 s] hx
          have e9 := own_only hE o9 hx (by decide)
          have f9 := own_only hown o9 hx (by decide)
          have hrn := hr.lt
          have hcn := hc.lt
          have c9 := o9.whole hc (by have := HRW10.out; omega)
          have r9 := o9.whole hr (by have := HRW10.out; omega)
          have t9 := o9.below ht (by have := HRW10.out; omega)
          generalize World.setRow wzleap (wzle.heap.size) #[.slice E n e2, .slice (some ⟨g3, 0, none⟩) n e3, .int .i64 s] = w9 at o9 x9 e9 f9 c9 r9 t9 ⊢
          refine hK.out _ _ (box3_of c9) (fun hHeld => ?_)
          clear hK K
          try simp only [Act.put, List.getElem_toArray, List.getElem_cons_succ, List.getElem_cons_zero, List.setIfInBounds_toArray, List.set_cons_succ, List.set_cons_zero]
          refine wpAnyH_done (by kernel_rfl) ?_ _
          clear hHeld
          go_wp2_with fail
          go_meet
          exact ⟨wzle.heap.size, E, e2, g3, e3, rfl, x9, own_lower e9 (by have := HB2.out; omega), own_lower f9 (by have := HB6.out; omega), r9, by have := HRW10.out; omega, t9⟩
      · go_simp
        have HB10 := Lib.hid ht.size
        have HRW10 := Lib.hid hr.lt
        have hx := Whole.fresh wzl 39 #[.slice none 0 0, .slice none 0 0, .int .i64 0]
        replace hc := hc.alloc (.cells #[.slice none 0 0, .slice none 0 0, .int .i64 0] 39)
        replace hr := hr.alloc (.cells #[.slice none 0 0, .slice none 0 0, .int .i64 0] 39)
        replace hE := hE.alloc (.cells #[.slice none 0 0, .slice none 0 0, .int .i64 0] 39)
        replace ht := ht.alloc ht.size (.cells #[.slice none 0 0, .slice none 0 0, .int .i64 0] 39)
        generalize World.alloc wzl (.cells #[.slice none 0 0, .slice none 0 0, .int .i64 0] 39) = wzla at hc hr hE ht hx ⊢
        refine hK.out _ _ (box3_of hc) (fun hHeld => ?_)
        clear hK K
        try simp only [Act.put, List.getElem_toArray, List.getElem_cons_succ, List.getElem_cons_zero, List.setIfInBounds_toArray, List.set_cons_succ, List.set_cons_zero]
        refine wpAnyH_ready (rs := [3]) (by kernel_rfl) (by simp) (AllReadyH.cons rfl (fun K hK => ?_) AllReadyH.nil)
        go_simp
        have HB3 := Lib.hid ht.size
        have HRW3 := Lib.hid hr.lt
        replace hc := hc.alloc (.cells #[] 4)
        replace hr := hr.alloc (.cells #[] 4)
        replace hx := hx.alloc (.cells #[] 4)
        replace hE := hE.alloc (.cells #[] 4)
        replace ht := ht.alloc ht.size (.cells #[] 4)
        generalize World.alloc wzla (.cells #[] 4) = wzlae at hc hr hx hE ht  ⊢
        refine hK.out _ _ (box3_of hc) (fun hHeld => ?_)
        clear hK K
        try simp only [Act.put, List.getElem_toArray, List.getElem_cons_succ, List.getElem_cons_zero, List.setIfInBounds_toArray, List.set_cons_succ, List.set_cons_zero]
        refine wpAnyH_ready (rs := [6]) (by kernel_rfl) (by simp) (AllReadyH.cons rfl (fun K hK => ?_) AllReadyH.nil)
        have HNW : Hid (∀ j u, (bits bs)[j]? = some u → wzlae.cell? ((⟨b, o, none⟩ : Addr).add j) = some u) := fun j u hu => by rw [show (⟨b, o, none⟩ : Addr).add j = ⟨b, o + j, none⟩ from by unfold Addr.add; split <;> simp_all]; exact (ht.cell (p := ⟨b, o + j, none⟩) hbl).trans (HCL.out j u hu)
        refine step_append_grows rfl (.tmp 23) (.tmp 25) 34 rfl 4 i0 (.bool false) 1 1 Try.underlying34 HI.out HZ0.out HZ1.out HZ2.out rfl (by decide) (some ⟨wzla.heap.size, 0, none⟩) 0 0 [] (by simp [Act.eval]) (fun h => by cases h) rfl (fun _ _ j u hu => by simp at hu) ⟨b, o, none⟩ n d (bits bs) (by simp [Act.eval]) HBL.out HNW.out (bits_one _) (by omega) HMAX.out HBYT.out ?_
        intro v' wzlaep hown hg
        rw [show 0 + n = n - 1 + 1 by omega] at hown
        obtain ⟨g3, e3, hv⟩ := own_form hown
        rw [show n - 1 + 1 = n by omega] at hv hown
        subst hv
        rw [List.nil_append] at hown
        have HB6 := Lib.hid ht.size
        have hz6 := hg.size
        replace hc := whole_apart hc hg (by simp)
        replace hr := whole_apart hr hg (by simp)
        replace hx := whole_apart hx hg (by simp)
        replace hE := hE.kept hg (Classical.em _)
        replace ht := ht.grown hg ht.size (fun x hx => by cases hx)
        clear hg
        refine hK.out _ _ (box3_of hc) (fun hHeld => ?_)
        clear hK K
        try simp only [Act.put, List.getElem_toArray, List.getElem_cons_succ, List.getElem_cons_zero, List.setIfInBounds_toArray, List.set_cons_succ, List.set_cons_zero]
        refine wpAnyH_take (i := 9) (v := ?_) rfl (by kernel_rfl) (by kernel_rfl) (by kernel_rfl) (fun _ _ _ h => h) (Or.inl ⟨rfl, ?_⟩) hHeld ?_
        rotate_left
        · intro w' hS; obtain ⟨s0, s1, s2⟩ := hS; go_simp <;> with_reducible rfl
        simp only [Act.put, List.getElem_toArray, List.getElem_cons_succ, List.getElem_cons_zero, List.setIfInBounds_toArray, List.set_cons_succ, List.set_cons_zero]
        refine wpAnyH_ready (rs := [11]) (by kernel_rfl) (by simp) (AllReadyH.cons rfl (fun K hK => ?_) AllReadyH.nil)
        refine wp_store_row 39 (.tmp 6) (.tmp 29) rfl (wzl.heap.size) #[.slice E n e2, .slice (some ⟨g3, 0, none⟩) n e3, .int .i64 s] rfl rfl 39 #[.slice none 0 0, .slice none 0 0, .int .i64 0] hx size_crew rfl (by simp [Value.oneCell']) ?_
        have o9 := only_setRow wzlaep (wzl.heap.size) #[.slice E n e2, .slice (some ⟨g3, 0, none⟩) n e3, .int .i64 s]
        have x9 := whole_setRow #[.slice E n e2, .slice (some ⟨g3, 0, none⟩) n e3, .int .i64 s] hx
        have e9 := own_only hE o9 hx (by decide)
        have f9 := own_only hown o9 hx (by decide)
        have hrn := hr.lt
        have hcn := hc.lt
        have c9 := o9.whole hc (by have := HRW10.out; omega)
        have r9 := o9.whole hr (by have := HRW10.out; omega)
        have t9 := o9.below ht (by have := HRW10.out; omega)
        generalize World.setRow wzlaep (wzl.heap.size) #[.slice E n e2, .slice (some ⟨g3, 0, none⟩) n e3, .int .i64 s] = w9 at o9 x9 e9 f9 c9 r9 t9 ⊢
        refine hK.out _ _ (box3_of c9) (fun hHeld => ?_)
        clear hK K
        try simp only [Act.put, List.getElem_toArray, List.getElem_cons_succ, List.getElem_cons_zero, List.setIfInBounds_toArray, List.set_cons_succ, List.set_cons_zero]
        refine wpAnyH_done (by kernel_rfl) ?_ _
        clear hHeld
        go_wp2_with fail
        go_meet
        exact ⟨wzl.heap.size, E, e2, g3, e3, rfl, x9, own_lower e9 (by have := HB2.out; omega), own_lower f9 (by have := HB6.out; omega), r9, by have := HRW10.out; omega, t9⟩
    · go_simp
      have HB3 := Lib.hid ht.size
      have HRW3 := Lib.hid hr.lt
      replace hc := hc.alloc (.cells #[] 4)
      replace hr := hr.alloc (.cells #[] 4)
      replace ht := ht.alloc ht.size (.cells #[] 4)
      generalize World.alloc w0 (.cells #[] 4) = wze at hc hr ht  ⊢
      refine hK.out _ _ (box3_of hc) (fun hHeld => ?_)
      clear hK K
      try simp only [Act.put, List.getElem_toArray, List.getElem_cons_succ, List.getElem_cons_zero, List.setIfInBounds_toArray, List.set_cons_succ, List.set_cons_zero]
      refine wpAnyH_ready (rs := [2, 10]) (by kernel_rfl) (by simp) (AllReadyH.cons rfl (fun K hK => ?_) (AllReadyH.cons rfl (fun K hK => ?_) AllReadyH.nil))
      · go_simp
        refine (l1Own_any A n n xs _ (by exact hA.below ht) HX.out (by omega) HNIL.out).mono ?_
        rintro e wzel ⟨E, e2, rfl, hE, hb⟩
        rw [HX.out] at hE ⊢
        replace hc := hc.below hb
        replace hr := hr.below hb
        have HB2 := Lib.hid ht.size
        have hz2 := hb.size
        replace ht := below_then ht hb ht.size
        clear hb
        refine hK.out _ _ (box3_of hc) (fun hHeld => ?_)
        clear hK K
        try simp only [Act.put, List.getElem_toArray, List.getElem_cons_succ, List.getElem_cons_zero, List.setIfInBounds_toArray, List.set_cons_succ, List.set_cons_zero]
        refine wpAnyH_ready (rs := [6, 10]) (by kernel_rfl) (by simp) (AllReadyH.cons rfl (fun K hK => ?_) (AllReadyH.cons rfl (fun K hK => ?_) AllReadyH.nil))
        · have HNW : Hid (∀ j u, (bits bs)[j]? = some u → wzel.cell? ((⟨b, o, none⟩ : Addr).add j) = some u) := fun j u hu => by rw [show (⟨b, o, none⟩ : Addr).add j = ⟨b, o + j, none⟩ from by unfold Addr.add; split <;> simp_all]; exact (ht.cell (p := ⟨b, o + j, none⟩) hbl).trans (HCL.out j u hu)
          refine step_append_grows rfl (.tmp 23) (.tmp 25) 34 rfl 4 i0 (.bool false) 1 1 Try.underlying34 HI.out HZ0.out HZ1.out HZ2.out rfl (by decide) (some ⟨w0.heap.size, 0, none⟩) 0 0 [] (by simp [Act.eval]) (fun h => by cases h) rfl (fun _ _ j u hu => by simp at hu) ⟨b, o, none⟩ n d (bits bs) (by simp [Act.eval]) HBL.out HNW.out (bits_one _) (by omega) HMAX.out HBYT.out ?_
          intro v' wzelp hown hg
          rw [show 0 + n = n - 1 + 1 by omega] at hown
          obtain ⟨g3, e3, hv⟩ := own_form hown
          rw [show n - 1 + 1 = n by omega] at hv hown
          subst hv
          rw [List.nil_append] at hown
          have HB6 := Lib.hid ht.size
          have hz6 := hg.size
          replace hc := whole_apart hc hg (by simp)
          replace hr := whole_apart hr hg (by simp)
          replace hE := hE.kept hg (Classical.em _)
          replace ht := ht.grown hg ht.size (fun x hx => by cases hx)
          clear hg
          refine hK.out _ _ (box3_of hc) (fun hHeld => ?_)
          clear hK K
          try simp only [Act.put, List.getElem_toArray, List.getElem_cons_succ, List.getElem_cons_zero, List.setIfInBounds_toArray, List.set_cons_succ, List.set_cons_zero]
          refine wpAnyH_take (i := 9) (v := ?_) rfl (by kernel_rfl) (by kernel_rfl) (by kernel_rfl) (fun _ _ _ h => h) (Or.inl ⟨rfl, ?_⟩) hHeld ?_
          rotate_left
          · intro w' hS; obtain ⟨s0, s1, s2⟩ := hS; go_simp <;> with_reducible rfl
          simp only [Act.put, List.getElem_toArray, List.getElem_cons_succ, List.getElem_cons_zero, List.setIfInBounds_toArray, List.set_cons_succ, List.set_cons_zero]
          refine wpAnyH_ready (rs := [10]) (by kernel_rfl) (by simp) (AllReadyH.cons rfl (fun K hK => ?_) AllReadyH.nil)
          go_simp
          have HB10 := Lib.hid ht.size
          have HRW10 := Lib.hid hr.lt
          have hx := Whole.fresh wzelp 39 #[.slice none 0 0, .slice none 0 0, .int .i64 0]
          replace hc := hc.alloc (.cells #[.slice none 0 0, .slice none 0 0, .int .i64 0] 39)
          replace hr := hr.alloc (.cells #[.slice none 0 0, .slice none 0 0, .int .i64 0] 39)
          replace hE := hE.alloc (.cells #[.slice none 0 0, .slice none 0 0, .int .i64 0] 39)
          replace hown := hown.alloc (.cells #[.slice none 0 0, .slice none 0 0, .int .i64 0] 39)
          replace ht := ht.alloc ht.size (.cells #[.slice none 0 0, .slice none 0 0, .int .i64 0] 39)
          generalize World.alloc wzelp (.cells #[.slice none 0 0, .slice none 0 0, .int .i64 0] 39) = wzelpa at hc hr hE hown ht hx ⊢
          refine hK.out _ _ (box3_of hc) (fun hHeld => ?_)
          clear hK K
          try simp only [Act.put, List.getElem_toArray, List.getElem_cons_succ, List.getElem_cons_zero, List.setIfInBounds_toArray, List.set_cons_succ, List.set_cons_zero]
          refine wpAnyH_ready (rs := [11]) (by kernel_rfl) (by simp) (AllReadyH.cons rfl (fun K hK => ?_) AllReadyH.nil)
          refine wp_store_row 39 (.tmp 6) (.tmp 29) rfl (wzelp.heap.size) #[.slice E n e2, .slice (some ⟨g3, 0, none⟩) n e3, .int .i64 s] rfl rfl 39 #[.slice none 0 0, .slice none 0 0, .int .i64 0] hx size_crew rfl (by simp [Value.oneCell']) ?_
          have o9 := only_setRow wzelpa (wzelp.heap.size) #[.slice E n e2, .slice (some ⟨g3, 0, none⟩) n e3, .int .i64 s]
          have x9 := whole_setRow #[.slice E n e2, .slice (some ⟨g3, 0, none⟩) n e3, .int .i64 s] hx
          have e9 := own_only hE o9 hx (by decide)
          have f9 := own_only hown o9 hx (by decide)
          have hrn := hr.lt
          have hcn := hc.lt
          have c9 := o9.whole hc (by have := HRW10.out; omega)
          have r9 := o9.whole hr (by have := HRW10.out; omega)
          have t9 := o9.below ht (by have := HRW10.out; omega)
          generalize World.setRow wzelpa (wzelp.heap.size) #[.slice E n e2, .slice (some ⟨g3, 0, none⟩) n e3, .int .i64 s] = w9 at o9 x9 e9 f9 c9 r9 t9 ⊢
          refine hK.out _ _ (box3_of c9) (fun hHeld => ?_)
          clear hK K
          try simp only [Act.put, List.getElem_toArray, List.getElem_cons_succ, List.getElem_cons_zero, List.setIfInBounds_toArray, List.set_cons_succ, List.set_cons_zero]
          refine wpAnyH_done (by kernel_rfl) ?_ _
          clear hHeld
          go_wp2_with fail
          go_meet
          exact ⟨wzelp.heap.size, E, e2, g3, e3, rfl, x9, own_lower e9 (by have := HB2.out; omega), own_lower f9 (by have := HB6.out; omega), r9, by have := HRW10.out; omega, t9⟩
        · go_simp
          have HB10 := Lib.hid ht.size
          have HRW10 := Lib.hid hr.lt
          have hx := Whole.fresh wzel 39 #[.slice none 0 0, .slice none 0 0, .int .i64 0]
          replace hc := hc.alloc (.cells #[.slice none 0 0, .slice none 0 0, .int .i64 0] 39)
          replace hr := hr.alloc (.cells #[.slice none 0 0, .slice none 0 0, .int .i64 0] 39)
          replace hE := hE.alloc (.cells #[.slice none 0 0, .slice none 0 0, .int .i64 0] 39)
          replace ht := ht.alloc ht.size (.cells #[.slice none 0 0, .slice none 0 0, .int .i64 0] 39)
          generalize World.alloc wzel (.cells #[.slice none 0 0, .slice none 0 0, .int .i64 0] 39) = wzela at hc hr hE ht hx ⊢
          refine hK.out _ _ (box3_of hc) (fun hHeld => ?_)
          clear hK K
          try simp only [Act.put, List.getElem_toArray, List.getElem_cons_succ, List.getElem_cons_zero, List.setIfInBounds_toArray, List.set_cons_succ, List.set_cons_zero]
          refine wpAnyH_ready (rs := [6]) (by kernel_rfl) (by simp) (AllReadyH.cons rfl (fun K hK => ?_) AllReadyH.nil)
          have HNW : Hid (∀ j u, (bits bs)[j]? = some u → wzela.cell? ((⟨b, o, none⟩ : Addr).add j) = some u) := fun j u hu => by rw [show (⟨b, o, none⟩ : Addr).add j = ⟨b, o + j, none⟩ from by unfold Addr.add; split <;> simp_all]; exact (ht.cell (p := ⟨b, o + j, none⟩) hbl).trans (HCL.out j u hu)
          refine step_append_grows rfl (.tmp 23) (.tmp 25) 34 rfl 4 i0 (.bool false) 1 1 Try.underlying34 HI.out HZ0.out HZ1.out HZ2.out rfl (by decide) (some ⟨w0.heap.size, 0, none⟩) 0 0 [] (by simp [Act.eval]) (fun h => by cases h) rfl (fun _ _ j u hu => by simp at hu) ⟨b, o, none⟩ n d (bits bs) (by simp [Act.eval]) HBL.out HNW.out (bits_one _) (by omega) HMAX.out HBYT.out ?_
          intro v' wzelap hown hg
          rw [show 0 + n = n - 1 + 1 by omega] at hown
          obtain ⟨g3, e3, hv⟩ := own_form hown
          rw [show n - 1 + 1 = n by omega] at hv hown
          subst hv
          rw [List.nil_append] at hown
          have HB6 := Lib.hid ht.size
          have hz6 := hg.size
          replace hc := whole_apart hc hg (by simp)
          replace hr := whole_apart hr hg (by simp)
          replace hx := whole_apart hx hg (by simp)
          replace hE := hE.kept hg (Classical.em _)
          replace ht := ht.grown hg ht.size (fun x hx => by cases hx)
          clear hg
          refine hK.out _ _ (box3_of hc) (fun hHeld => ?_)
          clear hK K
          try simp only [Act.put, List.getElem_toArray, List.getElem_cons_succ, List.getElem_cons_zero, List.setIfInBounds_toArray, List.set_cons_succ, List.set_cons_zero]
          refine wpAnyH_take (i := 9) (v := ?_) rfl (by kernel_rfl) (by kernel_rfl) (by kernel_rfl) (fun _ _ _ h => h) (Or.inl ⟨rfl, ?_⟩) hHeld ?_
          rotate_left
          · intro w' hS; obtain ⟨s0, s1, s2⟩ := hS; go_simp <;> with_reducible rfl
          simp only [Act.put, List.getElem_toArray, List.getElem_cons_succ, List.getElem_cons_zero, List.setIfInBounds_toArray, List.set_cons_succ, List.set_cons_zero]
          refine wpAnyH_ready (rs := [11]) (by kernel_rfl) (by simp) (AllReadyH.cons rfl (fun K hK => ?_) AllReadyH.nil)
          refine wp_store_row 39 (.tmp 6) (.tmp 29) rfl (wzel.heap.size) #[.slice E n e2, .slice (some ⟨g3, 0, none⟩) n e3, .int .i64 s] rfl rfl 39 #[.slice none 0 0, .slice none 0 0, .int .i64 0] hx size_crew rfl (by simp [Value.oneCell']) ?_
          have o9 := only_setRow wzelap (wzel.heap.size) #[.slice E n e2, .slice (some ⟨g3, 0, none⟩) n e3, .int .i64 s]
          have x9 := whole_setRow #[.slice E n e2, .slice (some ⟨g3, 0, none⟩) n e3, .int .i64 s] hx
          have e9 := own_only hE o9 hx (by decide)
          have f9 := own_only hown o9 hx (by decide)
          have hrn := hr.lt
          have hcn := hc.lt
          have c9 := o9.whole hc (by have := HRW10.out; omega)
          have r9 := o9.whole hr (by have := HRW10.out; omega)
          have t9 := o9.below ht (by have := HRW10.out; omega)
          generalize World.setRow wzelap (wzel.heap.size) #[.slice E n e2, .slice (some ⟨g3, 0, none⟩) n e3, .int .i64 s] = w9 at o9 x9 e9 f9 c9 r9 t9 ⊢
          refine hK.out _ _ (box3_of c9) (fun hHeld => ?_)
          clear hK K
          try simp only [Act.put, List.getElem_toArray, List.getElem_cons_succ, List.getElem_cons_zero, List.setIfInBounds_toArray, List.set_cons_succ, List.set_cons_zero]
          refine wpAnyH_done (by kernel_rfl) ?_ _
          clear hHeld
          go_wp2_with fail
          go_meet
          exact ⟨wzel.heap.size, E, e2, g3, e3, rfl, x9, own_lower e9 (by have := HB2.out; omega), own_lower f9 (by have := HB6.out; omega), r9, by have := HRW10.out; omega, t9⟩
      · go_simp
        have HB10 := Lib.hid ht.size
        have HRW10 := Lib.hid hr.lt
        have hx := Whole.fresh wze 39 #[.slice none 0 0, .slice none 0 0, .int .i64 0]
        replace hc := hc.alloc (.cells #[.slice none 0 0, .slice none 0 0, .int .i64 0] 39)
        replace hr := hr.alloc (.cells #[.slice none 0 0, .slice none 0 0, .int .i64 0] 39)
        replace ht := ht.alloc ht.size (.cells #[.slice none 0 0, .slice none 0 0, .int .i64 0] 39)
        generalize World.alloc wze (.cells #[.slice none 0 0, .slice none 0 0, .int .i64 0] 39) = wzea at hc hr ht hx ⊢
        refine hK.out _ _ (box3_of hc) (fun hHeld => ?_)
        clear hK K
        try simp only [Act.put, List.getElem_toArray, List.getElem_cons_succ, List.getElem_cons_zero, List.setIfInBounds_toArray, List.set_cons_succ, List.set_cons_zero]
        refine wpAnyH_ready (rs := [2]) (by kernel_rfl) (by simp) (AllReadyH.cons rfl (fun K hK => ?_) AllReadyH.nil)
        go_simp
        refine (l1Own_any A n n xs _ (by exact hA.below ht) HX.out (by omega) HNIL.out).mono ?_
        rintro e wzeal ⟨E, e2, rfl, hE, hb⟩
        rw [HX.out] at hE ⊢
        replace hc := hc.below hb
        replace hr := hr.below hb
        replace hx := hx.below hb
        have HB2 := Lib.hid ht.size
        have hz2 := hb.size
        replace ht := below_then ht hb ht.size
        clear hb
        refine hK.out _ _ (box3_of hc) (fun hHeld => ?_)
        clear hK K
        try simp only [Act.put, List.getElem_toArray, List.getElem_cons_succ, List.getElem_cons_zero, List.setIfInBounds_toArray, List.set_cons_succ, List.set_cons_zero]
        refine wpAnyH_ready (rs := [6]) (by kernel_rfl) (by simp) (AllReadyH.cons rfl (fun K hK => ?_) AllReadyH.nil)
        have HNW : Hid (∀ j u, (bits bs)[j]? = some u → wzeal.cell? ((⟨b, o, none⟩ : Addr).add j) = some u) := fun j u hu => by rw [show (⟨b, o, none⟩ : Addr).add j = ⟨b, o + j, none⟩ from by unfold Addr.add; split <;> simp_all]; exact (ht.cell (p := ⟨b, o + j, none⟩) hbl).trans (HCL.out j u hu)
        refine step_append_grows rfl (.tmp 23) (.tmp 25) 34 rfl 4 i0 (.bool false) 1 1 Try.underlying34 HI.out HZ0.out HZ1.out HZ2.out rfl (by decide) (some ⟨w0.heap.size, 0, none⟩) 0 0 [] (by simp [Act.eval]) (fun h => by cases h) rfl (fun _ _ j u hu => by simp at hu) ⟨b, o, none⟩ n d (bits bs) (by simp [Act.eval]) HBL.out HNW.out (bits_one _) (by omega) HMAX.out HBYT.out ?_
        intro v' wzealp hown hg
        rw [show 0 + n = n - 1 + 1 by omega] at hown
        obtain ⟨g3, e3, hv⟩ := own_form hown
        rw [show n - 1 + 1 = n by omega] at hv hown
        subst hv
        rw [List.nil_append] at hown
        have HB6 := Lib.hid ht.size
        have hz6 := hg.size
        replace hc := whole_apart hc hg (by simp)
        replace hr := whole_apart hr hg (by simp)
        replace hx := whole_apart hx hg (by simp)
        replace hE := hE.kept hg (Classical.em _)
        replace ht := ht.grown hg ht.size (fun x hx => by cases hx)
        clear hg
        refine hK.out _ _ (box3_of hc) (fun hHeld => ?_)
        clear hK K
        try simp only [Act.put, List.getElem_toArray, List.getElem_cons_succ, List.getElem_cons_zero, List.setIfInBounds_toArray, List.set_cons_succ, List.set_cons_zero]
        refine wpAnyH_take (i := 9) (v := ?_) rfl (by kernel_rfl) (by kernel_rfl) (by kernel_rfl) (fun _ _ _ h => h) (Or.inl ⟨rfl, ?_⟩) hHeld ?_
        rotate_left
        · intro w' hS; obtain ⟨s0, s1, s2⟩ := hS; go_simp <;> with_reducible rfl
        simp only [Act.put, List.getElem_toArray, List.getElem_cons_succ, List.getElem_cons_zero, List.setIfInBounds_toArray, List.set_cons_succ, List.set_cons_zero]
        refine wpAnyH_ready (rs := [11]) (by kernel_rfl) (by simp) (AllReadyH.cons rfl (fun K hK => ?_) AllReadyH.nil)
        refine wp_store_row 39 (.tmp 6) (.tmp 29) rfl (wze.heap.size) #[.slice E n e2, .slice (some ⟨g3, 0, none⟩) n e3, .int .i64 s] rfl rfl 39 #[.slice none 0 0, .slice none 0 0, .int .i64 0] hx size_crew rfl (by simp [Value.oneCell']) ?_
        have o9 := only_setRow wzealp (wze.heap.size) #[.slice E n e2, .slice (some ⟨g3, 0, none⟩) n e3, .int .i64 s]
        have x9 := whole_setRow #[.slice E n e2, .slice (some ⟨g3, 0, none⟩) n e3, .int .i64 s] hx
        have e9 := own_only hE o9 hx (by decide)
        have f9 := own_only hown o9 hx (by decide)
        have hrn := hr.lt
        have hcn := hc.lt
        have c9 := o9.whole hc (by have := HRW10.out; omega)
        have r9 := o9.whole hr (by have := HRW10.out; omega)
        have t9 := o9.below ht (by have := HRW10.out; omega)
        generalize World.setRow wzealp (wze.heap.size) #[.slice E n e2, .slice (some ⟨g3, 0, none⟩) n e3, .int .i64 s] = w9 at o9 x9 e9 f9 c9 r9 t9 ⊢
        refine hK.out _ _ (box3_of c9) (fun hHeld => ?_)
        clear hK K
        try simp only [Act.put, List.getElem_toArray, List.getElem_cons_succ, List.getElem_cons_zero, List.setIfInBounds_toArray, List.set_cons_succ, List.set_cons_zero]
        refine wpAnyH_done (by kernel_rfl) ?_ _
        clear hHeld
        go_wp2_with fail
        go_meet
        exact ⟨wze.heap.size, E, e2, g3, e3, rfl, x9, own_lower e9 (by have := HB2.out; omega), own_lower f9 (by have := HB6.out; omega), r9, by have := HRW10.out; omega, t9⟩
    · go_simp
      have HB10 := Lib.hid ht.size
      have HRW10 := Lib.hid hr.lt
      have hx := Whole.fresh w0 39 #[.slice none 0 0, .slice none 0 0, .int .i64 0]
      replace hc := hc.alloc (.cells #[.slice none 0 0, .slice none 0 0, .int .i64 0] 39)
      replace hr := hr.alloc (.cells #[.slice none 0 0, .slice none 0 0, .int .i64 0] 39)
      replace ht := ht.alloc ht.size (.cells #[.slice none 0 0, .slice none 0 0, .int .i64 0] 39)
      generalize World.alloc w0 (.cells #[.slice none 0 0, .slice none 0 0, .int .i64 0] 39) = wza at hc hr ht hx ⊢
      refine hK.out _ _ (box3_of hc) (fun hHeld => ?_)
      clear hK K
      try simp only [Act.put, List.getElem_toArray, List.getElem_cons_succ, List.getElem_cons_zero, List.setIfInBounds_toArray, List.set_cons_succ, List.set_cons_zero]
      refine wpAnyH_ready (rs := [2, 3]) (by kernel_rfl) (by simp) (AllReadyH.cons rfl (fun K hK => ?_) (AllReadyH.cons rfl (fun K hK => ?_) AllReadyH.nil))
      · go_simp
        refine (l1Own_any A n n xs _ (by exact hA.below ht) HX.out (by omega) HNIL.out).mono ?_
        rintro e wzal ⟨E, e2, rfl, hE, hb⟩
        rw [HX.out] at hE ⊢
        replace hc := hc.below hb
        replace hr := hr.below hb
        replace hx := hx.below hb
        have HB2 := Lib.hid ht.size
        have hz2 := hb.size
        replace ht := below_then ht hb ht.size
        clear hb
        refine hK.out _ _ (box3_of hc) (fun hHeld => ?_)
        clear hK K
        try simp only [Act.put, List.getElem_toArray, List.getElem_cons_succ, List.getElem_cons_zero, List.setIfInBounds_toArray, List.set_cons_succ, List.set_cons_zero]
        refine wpAnyH_ready (rs := [3]) (by kernel_rfl) (by simp) (AllReadyH.cons rfl (fun K hK => ?_) AllReadyH.nil)
        go_simp
        have HB3 := Lib.hid ht.size
        have HRW3 := Lib.hid hr.lt
        replace hc := hc.alloc (.cells #[] 4)
        replace hr := hr.alloc (.cells #[] 4)
        replace hx := hx.alloc (.cells #[] 4)
        replace hE := hE.alloc (.cells #[] 4)
        replace ht := ht.alloc ht.size (.cells #[] 4)
        generalize World.alloc wzal (.cells #[] 4) = wzale at hc hr hx hE ht  ⊢
        refine hK.out _ _ (box3_of hc) (fun hHeld => ?_)
        clear hK K
        try simp only [Act.put, List.getElem_toArray, List.getElem_cons_succ, List.getElem_cons_zero, List.setIfInBounds_toArray, List.set_cons_succ, List.set_cons_zero]
        refine wpAnyH_ready (rs := [6]) (by kernel_rfl) (by simp) (AllReadyH.cons rfl (fun K hK => ?_) AllReadyH.nil)
        have HNW : Hid (∀ j u, (bits bs)[j]? = some u → wzale.cell? ((⟨b, o, none⟩ : Addr).add j) = some u) := fun j u hu => by rw [show (⟨b, o, none⟩ : Addr).add j = ⟨b, o + j, none⟩ from by unfold Addr.add; split <;> simp_all]; exact (ht.cell (p := ⟨b, o + j, none⟩) hbl).trans (HCL.out j u hu)
        refine step_append_grows rfl (.tmp 23) (.tmp 25) 34 rfl 4 i0 (.bool false) 1 1 Try.underlying34 HI.out HZ0.out HZ1.out HZ2.out rfl (by decide) (some ⟨wzal.heap.size, 0, none⟩) 0 0 [] (by simp [Act.eval]) (fun h => by cases h) rfl (fun _ _ j u hu => by simp at hu) ⟨b, o, none⟩ n d (bits bs) (by simp [Act.eval]) HBL.out HNW.out (bits_one _) (by omega) HMAX.out HBYT.out ?_
        intro v' wzalep hown hg
        rw [show 0 + n = n - 1 + 1 by omega] at hown
        obtain ⟨g3, e3, hv⟩ := own_form hown
        rw [show n - 1 + 1 = n by omega] at hv hown
        subst hv
        rw [List.nil_append] at hown
        have HB6 := Lib.hid ht.size
        have hz6 := hg.size
        replace hc := whole_apart hc hg (by simp)
        replace hr := whole_apart hr hg (by simp)
        replace hx := whole_apart hx hg (by simp)
        replace hE := hE.kept hg (Classical.em _)
        replace ht := ht.grown hg ht.size (fun x hx => by cases hx)
        clear hg
        refine hK.out _ _ (box3_of hc) (fun hHeld => ?_)
        clear hK K
        try simp only [Act.put, List.getElem_toArray, List.getElem_cons_succ, List.getElem_cons_zero, List.setIfInBounds_toArray, List.set_cons_succ, List.set_cons_zero]
        refine wpAnyH_take (i := 9) (v := ?_) rfl (by kernel_rfl) (by kernel_rfl) (by kernel_rfl) (fun _ _ _ h => h) (Or.inl ⟨rfl, ?_⟩) hHeld ?_
        rotate_left
        · intro w' hS; obtain ⟨s0, s1, s2⟩ := hS; go_simp <;> with_reducible rfl
        simp only [Act.put, List.getElem_toArray, List.getElem_cons_succ, List.getElem_cons_zero, List.setIfInBounds_toArray, List.set_cons_succ, List.set_cons_zero]
        refine wpAnyH_ready (rs := [11]) (by kernel_rfl) (by simp) (AllReadyH.cons rfl (fun K hK => ?_) AllReadyH.nil)
        refine wp_store_row 39 (.tmp 6) (.tmp 29) rfl (w0.heap.size) #[.slice E n e2, .slice (some ⟨g3, 0, none⟩) n e3, .int .i64 s] rfl rfl 39 #[.slice none 0 0, .slice none 0 0, .int .i64 0] hx size_crew rfl (by simp [Value.oneCell']) ?_
        have o9 := only_setRow wzalep (w0.heap.size) #[.slice E n e2, .slice (some ⟨g3, 0, none⟩) n e3, .int .i64 s]
        have x9 := whole_setRow #[.slice E n e2, .slice (some ⟨g3, 0, none⟩) n e3, .int .i64 s] hx
        have e9 := own_only hE o9 hx (by decide)
        have f9 := own_only hown o9 hx (by decide)
        have hrn := hr.lt
        have hcn := hc.lt
        have c9 := o9.whole hc (by have := HRW10.out; omega)
        have r9 := o9.whole hr (by have := HRW10.out; omega)
        have t9 := o9.below ht (by have := HRW10.out; omega)
        generalize World.setRow wzalep (w0.heap.size) #[.slice E n e2, .slice (some ⟨g3, 0, none⟩) n e3, .int .i64 s] = w9 at o9 x9 e9 f9 c9 r9 t9 ⊢
        refine hK.out _ _ (box3_of c9) (fun hHeld => ?_)
        clear hK K
        try simp only [Act.put, List.getElem_toArray, List.getElem_cons_succ, List.getElem_cons_zero, List.setIfInBounds_toArray, List.set_cons_succ, List.set_cons_zero]
        refine wpAnyH_done (by kernel_rfl) ?_ _
        clear hHeld
        go_wp2_with fail
        go_meet
        exact ⟨w0.heap.size, E, e2, g3, e3, rfl, x9, own_lower e9 (by have := HB2.out; omega), own_lower f9 (by have := HB6.out; omega), r9, by have := HRW10.out; omega, t9⟩
      · go_simp
        have HB3 := Lib.hid ht.size
        have HRW3 := Lib.hid hr.lt
        replace hc := hc.alloc (.cells #[] 4)
        replace hr := hr.alloc (.cells #[] 4)
        replace hx := hx.alloc (.cells #[] 4)
        replace ht := ht.alloc ht.size (.cells #[] 4)
        generalize World.alloc wza (.cells #[] 4) = wzae at hc hr hx ht  ⊢
        refine hK.out _ _ (box3_of hc) (fun hHeld => ?_)
        clear hK K
        try simp only [Act.put, List.getElem_toArray, List.getElem_cons_succ, List.getElem_cons_zero, List.setIfInBounds_toArray, List.set_cons_succ, List.set_cons_zero]
        refine wpAnyH_ready (rs := [2]) (by kernel_rfl) (by simp) (AllReadyH.cons rfl (fun K hK => ?_) AllReadyH.nil)
        go_simp
        refine (l1Own_any A n n xs _ (by exact hA.below ht) HX.out (by omega) HNIL.out).mono ?_
        rintro e wzael ⟨E, e2, rfl, hE, hb⟩
        rw [HX.out] at hE ⊢
        replace hc := hc.below hb
        replace hr := hr.below hb
        replace hx := hx.below hb
        have HB2 := Lib.hid ht.size
        have hz2 := hb.size
        replace ht := below_then ht hb ht.size
        clear hb
        refine hK.out _ _ (box3_of hc) (fun hHeld => ?_)
        clear hK K
        try simp only [Act.put, List.getElem_toArray, List.getElem_cons_succ, List.getElem_cons_zero, List.setIfInBounds_toArray, List.set_cons_succ, List.set_cons_zero]
        refine wpAnyH_ready (rs := [6]) (by kernel_rfl) (by simp) (AllReadyH.cons rfl (fun K hK => ?_) AllReadyH.nil)
        have HNW : Hid (∀ j u, (bits bs)[j]? = some u → wzael.cell? ((⟨b, o, none⟩ : Addr).add j) = some u) := fun j u hu => by rw [show (⟨b, o, none⟩ : Addr).add j = ⟨b, o + j, none⟩ from by unfold Addr.add; split <;> simp_all]; exact (ht.cell (p := ⟨b, o + j, none⟩) hbl).trans (HCL.out j u hu)
        refine step_append_grows rfl (.tmp 23) (.tmp 25) 34 rfl 4 i0 (.bool false) 1 1 Try.underlying34 HI.out HZ0.out HZ1.out HZ2.out rfl (by decide) (some ⟨wza.heap.size, 0, none⟩) 0 0 [] (by simp [Act.eval]) (fun h => by cases h) rfl (fun _ _ j u hu => by simp at hu) ⟨b, o, none⟩ n d (bits bs) (by simp [Act.eval]) HBL.out HNW.out (bits_one _) (by omega) HMAX.out HBYT.out ?_
        intro v' wzaelp hown hg
        rw [show 0 + n = n - 1 + 1 by omega] at hown
        obtain ⟨g3, e3, hv⟩ := own_form hown
        rw [show n - 1 + 1 = n by omega] at hv hown
        subst hv
        rw [List.nil_append] at hown
        have HB6 := Lib.hid ht.size
        have hz6 := hg.size
        replace hc := whole_apart hc hg (by simp)
        replace hr := whole_apart hr hg (by simp)
        replace hx := whole_apart hx hg (by simp)
        replace hE := hE.kept hg (Classical.em _)
        replace ht := ht.grown hg ht.size (fun x hx => by cases hx)
        clear hg
        refine hK.out _ _ (box3_of hc) (fun hHeld => ?_)
        clear hK K
        try simp only [Act.put, List.getElem_toArray, List.getElem_cons_succ, List.getElem_cons_zero, List.setIfInBounds_toArray, List.set_cons_succ, List.set_cons_zero]
        refine wpAnyH_take (i := 9) (v := ?_) rfl (by kernel_rfl) (by kernel_rfl) (by kernel_rfl) (fun _ _ _ h => h) (Or.inl ⟨rfl, ?_⟩) hHeld ?_
        rotate_left
        · intro w' hS; obtain ⟨s0, s1, s2⟩ := hS; go_simp <;> with_reducible rfl
        simp only [Act.put, List.getElem_toArray, List.getElem_cons_succ, List.getElem_cons_zero, List.setIfInBounds_toArray, List.set_cons_succ, List.set_cons_zero]
        refine wpAnyH_ready (rs := [11]) (by kernel_rfl) (by simp) (AllReadyH.cons rfl (fun K hK => ?_) AllReadyH.nil)
        refine wp_store_row 39 (.tmp 6) (.tmp 29) rfl (w0.heap.size) #[.slice E n e2, .slice (some ⟨g3, 0, none⟩) n e3, .int .i64 s] rfl rfl 39 #[.slice none 0 0, .slice none 0 0, .int .i64 0] hx size_crew rfl (by simp [Value.oneCell']) ?_
        have o9 := only_setRow wzaelp (w0.heap.size) #[.slice E n e2, .slice (some ⟨g3, 0, none⟩) n e3, .int .i64 s]
        have x9 := whole_setRow #[.slice E n e2, .slice (some ⟨g3, 0, none⟩) n e3, .int .i64 s] hx
        have e9 := own_only hE o9 hx (by decide)
        have f9 := own_only hown o9 hx (by decide)
        have hrn := hr.lt
        have hcn := hc.lt
        have c9 := o9.whole hc (by have := HRW10.out; omega)
        have r9 := o9.whole hr (by have := HRW10.out; omega)
        have t9 := o9.below ht (by have := HRW10.out; omega)
        generalize World.setRow wzaelp (w0.heap.size) #[.slice E n e2, .slice (some ⟨g3, 0, none⟩) n e3, .int .i64 s] = w9 at o9 x9 e9 f9 c9 r9 t9 ⊢
        refine hK.out _ _ (box3_of c9) (fun hHeld => ?_)
        clear hK K
        try simp only [Act.put, List.getElem_toArray, List.getElem_cons_succ, List.getElem_cons_zero, List.setIfInBounds_toArray, List.set_cons_succ, List.set_cons_zero]
        refine wpAnyH_done (by kernel_rfl) ?_ _
        clear hHeld
        go_wp2_with fail
        go_meet
        exact ⟨w0.heap.size, E, e2, g3, e3, rfl, x9, own_lower e9 (by have := HB2.out; omega), own_lower f9 (by have := HB6.out; omega), r9, by have := HRW10.out; omega, t9⟩
  clear hc hr ht
  obtain ⟨gx, E, e2, g3, e3, rfl, hx, hE, hF, hr, hgx, ht⟩ := hcut
  have hFw : ∃ cs, Whole wc g3 4 cs := by
    rcases hF.2 with ⟨h', _⟩ | ⟨g', cap', cur, h', _, hg, _⟩
    · simp at h'
    · obtain ⟨rfl, -⟩ : g3 = g' ∧ e3 = cap' := by simpa using h'
      exact ⟨cur, hg⟩
  obtain ⟨cs, hFw⟩ := hFw
  have hset : (bits bs).set k (.bool true) = bits (rowsSet bs k true) := by
    have := HY.out
    rw [List.set_eq_take_append_cons_drop, if_pos (by rw [bits_len]; omega)]
    simp [bits, rowsSet]
  have hF2 := (hF.stored k (.bool true)).1
  rw [hset] at hF2
  have hE2 := own_off (b := g3) (o := k) (u := .bool true) hE hFw (by decide)
  have hx2 := hx.off (b := g3) (o := k) (u := .bool true) (whole_ne hx hFw (by decide))
  have hr2 := hr.off (b := g3) (o := k) (u := .bool true) (whole_ne hr hFw (by decide))
  have hg3 : w.heap.size ≤ g3 := (hF.lt g3 rfl).1
  have ht2 := below_set (b := g3) (o := k) (u := .bool true) ht hg3
  obtain ⟨x0, x1, x2⟩ := hx.cells3
  have hkF := hF.cellAt k (by omega)
  have hfF := hF.frozenAt k
  have hcellk : (bits bs)[k]? = some (.bool (bs.getD k false)) := by
    have := HY.out
    have h9 : k < bs.length := by omega
    simp [bits, h9]
  rw [hcellk] at hkF
  have hle : (rowsSet bs k true).length = n := by rw [rowsSet_len (by have := HY.out; omega)]; exact HY.out
  have HLE := Lib.hid hle
  have HE2 := Lib.hid hE2
  have HF2 := Lib.hid hF2
  have HX2 := Lib.hid hx2
  have HR2 := Lib.hid hr2
  have HT2 := Lib.hid ht2
  clear hcellk hset hFw hE hF hr ht hE2 hF2 hx2 hr2 ht2 hle hx
  go_upto_region 5 with fail
  clear x0 x1 x2 hkF hfF
  obtain ⟨W, hW⟩ : ∃ W, W = wc.setCell ⟨g3, k, none⟩ (.bool true) := ⟨_, rfl⟩
  rw [← hW] at HE2 HF2 HX2 HR2 HT2 ⊢
  clear hW
  have hr2 := HR2.out
  have hS1 := hr2.set_ 0 (.slice E n e2)
  have hS2 := hS1.set_ 1 (.slice (some ⟨g3, 0, none⟩) n e3)
  have HE3 := Lib.hid ((((Fresh.of_own' HE2.out).set_ne (o := 0) (u := .slice E n e2) hr2 (by decide)).set_ne (o := 1) (u := .slice (some ⟨g3, 0, none⟩) n e3) hS1 (by decide)).set_ne (o := 2) (u := .int .i64 s) hS2 (by decide))
  have HF3 := Lib.hid ((((Fresh.of_own' HF2.out).set_ne (o := 0) (u := .slice E n e2) hr2 (by decide)).set_ne (o := 1) (u := .slice (some ⟨g3, 0, none⟩) n e3) hS1 (by decide)).set_ne (o := 2) (u := .int .i64 s) hS2 (by decide))
  obtain ⟨x0, x1, x2⟩ := HX2.out.cells3
  obtain ⟨r0, r1, r2⟩ := hr2.cells3
  have f0 := hr2.open_ 0
  have f1 := hr2.open_ 1
  have f2 := hr2.open_ 2
  have hxl := HX2.out.lt
  clear hS1 hS2 hr2
  go_wp2
  refine bodyPost_ret (v := .tuple #[.agg #[.slice E n e2, .slice (some ⟨g3, 0, none⟩) n e3, .int .i64 s], .bool true]) (by simp [results, Try.results56, go_sem, r0, r1, r2]) rfl ⟨E, e2, _, e3, by rw [HX.out, HLE.out], ?_, ?_, below_set (below_set (below_set HT2.out (by omega)) (by omega)) (by omega)⟩
  · have h := HE3.out
    simpa [World.setCell] using h
  · have h := HF3.out
    simpa [World.setCell] using h

set_option maxHeartbeats 3200000 in
set_option maxRecDepth 100000 in
set_option linter.unusedVariables false in
theorem specTeachPerson_any (A : Option Addr) (n : Nat) (B : Option Addr) (m : Nat) (xs : List Int) (bs : List Bool) (s : Int) (k : Int) (w : World) (hA : Holds w A (nums xs)) (hB : Holds w B (bits bs)) (hx : xs.length = n) (hy : bs.length = m) (hn : n ≤ 1048576) (hm : m ≤ 1048576) (hnil : A = none → n = 0) :
    Calls Try.prog 56 #[.agg #[.slice A n n, .slice B m m, .int .i64 s], .int .i64 k] w (CrewOkPost (teachNums xs bs s k) (teachRows xs bs s k) (teachMost xs bs s k) (teachOk xs bs s k) w) := by
  have HX := Lib.hid hx
  have HY := Lib.hid hy
  have hc := ((Whole.fresh w 39 #[.slice A n n, .slice B m m, .int .i64 s]).alloc (.cells #[.slice none 0 0, .slice none 0 0, .int .i64 0] 39))
  have hr := Whole.fresh (w.alloc (.cells #[.slice A n n, .slice B m m, .int .i64 s] 39)) 39 #[.slice none 0 0, .slice none 0 0, .int .i64 0]
  rw [World.size_alloc] at hr
  have ht := below2 w (.cells #[.slice A n n, .slice B m m, .int .i64 s] 39) (.cells #[.slice none 0 0, .slice none 0 0, .int .i64 0] 39)
  have HNO : Hid (teachOk xs bs s k = false → CrewOkPost (teachNums xs bs s k) (teachRows xs bs s k) (teachMost xs bs s k) (teachOk xs bs s k) w = CrewOkPost [] [] 0 false w) := fun h => by
    obtain ⟨a, b, c, d⟩ := teach_no h
    rw [a, b, c, d]
  cases hp : isCrew xs m s
  · have HP := Lib.hid hp
    rw [HNO.out (by simp [teachOk, hy, hp])]
    clear hp hx hy HNO
    go_enter Try.func56, Try.ntmps56
    go_wp2_with fail
    refine (loGood_any A n n B m m xs s _ (by exact hA.below ht) HX.out (by omega)).mono ?_
    rintro e w1 ⟨rfl, hb⟩
    rw [HP.out]
    replace ht := below_then ht hb ht.size
    replace hr := hr.below hb
    have hrl := hr.lt
    obtain ⟨r0, r1, r2⟩ := hr.cells3
    have f0 := hr.open_ 0
    have f1 := hr.open_ 1
    have f2 := hr.open_ 2
    clear hb hc
    go_wp2
    refine bodyPost_ret (v := .tuple #[.agg #[.slice none 0 0, .slice none 0 0, .int .i64 0], .bool false]) (by simp [results, Try.results56, go_sem, r0, r1, r2]) rfl ⟨none, 0, none, 0, rfl, .inl rfl, .inl rfl, below_set (below_set (below_set ht (by omega)) (by omega)) (by omega)⟩
  have HP := Lib.hid hp
  have hok := isCrew_ok hp
  have hmn : m = n := by have := hok.rows; omega
  have h7 := hok.seven
  have h1 := hok.one
  cases hin : within k 0 ((n : Int) - 1)
  · have HIN := Lib.hid hin
    have hwn := within_false hin
    rw [HNO.out (by simp only [teachOk, Bool.and_eq_false_iff, decide_eq_false_iff_not]; omega)]
    clear hp hx hy HNO hok hmn h7 h1 hin hwn
    go_enter Try.func56, Try.ntmps56
    go_wp2_with fail
    refine (loGood_any A n n B m m xs s _ (by exact hA.below ht) HX.out (by omega)).mono ?_
    rintro e w1 ⟨rfl, hb⟩
    rw [HP.out]
    replace ht := below_then ht hb ht.size
    replace hr := hr.below hb
    have hrl := hr.lt
    obtain ⟨c0, c1, c2⟩ := (hc.below hb).cells3
    obtain ⟨r0, r1, r2⟩ := hr.cells3
    have f0 := hr.open_ 0
    have f1 := hr.open_ 1
    have f2 := hr.open_ 2
    clear hb hc
    go_wp2_with fail
    refine (l1In_any _ _ _ _).mono ?_
    rintro e w' ⟨rfl, rfl⟩
    rw [HIN.out]
    go_wp2
    refine bodyPost_ret (v := .tuple #[.agg #[.slice none 0 0, .slice none 0 0, .int .i64 0], .bool false]) (by simp [results, Try.results56, go_sem, r0, r1, r2]) rfl ⟨none, 0, none, 0, rfl, .inl rfl, .inl rfl, below_set (below_set (below_set ht (by omega)) (by omega)) (by omega)⟩
  have hwn := within_iff.1 hin
  obtain ⟨kk, rfl⟩ : ∃ kk : Nat, k = kk := ⟨k.toNat, by omega⟩
  subst hmn
  have htk : teachOk xs bs s kk = true := by simp [teachOk, hy, hp]; omega
  obtain ⟨q1, q2, q3, q4⟩ := teach_yes htk
  rw [q1, q2, q3, q4, Int.toNat_natCast]
  rcases hB with hnl | ⟨b, o, rfl, hbl, hcell⟩
  · exfalso
    have := congrArg List.length hnl
    rw [bits_len, hy] at this
    simp at this
    omega
  exact specTeach_on A m b o m xs bs s kk w hA hcell hbl hx hy hp (by omega) (by omega) (by omega) hnil
end Go.Proofs.Ytoedcieofjcgkaa

namespace Go.Proofs.Ytoedcieofjcgkaa
open Go.RowKit

set_option maxHeartbeats 800000 in
set_option linter.unusedVariables false in
theorem lawTeachPerson_big0 (A0 : Option Addr) (n0 c0 : Nat) (x0 : List Int) (A1 : Option Addr) (n1 c1 : Nat) (x1 : List Bool) (k0 : Int) (k1 : Int) (w : World) (h0 : Holds w A0 (nums x0)) (hx0 : x0.length = n0) (hn0 : n0 ≤ 9223372036854775807) (h1 : Holds w A1 (bits x1)) (hx1 : x1.length = n1) (hn1 : n1 ≤ 9223372036854775807)  (hbig : 1048576 - (n0 : Int) - (n1 : Int) < 0) :
    Calls Try.prog 14 #[.agg #[.slice A0 n0 c0, .slice A1 n1 c1, .int .i64 k0], .int .i64 k1] w fun e w' => e = .returned (.bool true) ∧ Below w.heap.size w w' := by
  have hb0 := (Whole.fresh w 36 #[.slice A0 n0 c0, .slice A1 n1 c1, .int .i64 k0])
  have ht := below1 w (.cells #[.slice A0 n0 c0, .slice A1 n1 c1, .int .i64 k0] 36)
  have HX0 := Lib.hid hx0
  have HX1 := Lib.hid hx1
  clear hx0 hx1
  obtain ⟨hb0_0, hb0_1, hb0_2⟩ := hb0.cells3
  have hb0_l := hb0.lt
  go_enter Try.func14, Try.ntmps14
  go_wp2_with fail
  refine (szCrew_any A0 n0 c0 A1 n1 c1 k0 (1048576) _ (by omega) (by omega) (by omega) (by omega)).mono ?_
  rintro e v1 ⟨rfl, hb⟩
  rw [crewLeft_bad (by omega)]
  have hz1 : w.heap.size + 1 ≤ v1.heap.size := by have := hb.size; simpa using this
  replace ht := below_then ht hb ht.size
  replace hb0 := hb0.below hb
  clear hb
  clear hb0_0 hb0_1 hb0_2 hb0_l
  go_wp2
  go_ret
  exact ⟨rfl, ht⟩

set_option maxHeartbeats 12800000 in
set_option maxRecDepth 100000 in
set_option linter.unusedSimpArgs false in
set_option linter.unusedVariables false in
theorem lawTeachPerson_small (A0 : Option Addr) (n0 c0 : Nat) (x0 : List Int) (A1 : Option Addr) (n1 c1 : Nat) (x1 : List Bool) (k0 : Int) (k1 : Int) (w : World) (h0 : Holds w A0 (nums x0)) (hx0 : x0.length = n0) (hn0 : n0 ≤ 9223372036854775807) (h1 : Holds w A1 (bits x1)) (hx1 : x1.length = n1) (hn1 : n1 ≤ 9223372036854775807) (g0 : 0 ≤ 1048576 - (n0 : Int) - (n1 : Int)) :
    Calls Try.prog 14 #[.agg #[.slice A0 n0 c0, .slice A1 n1 c1, .int .i64 k0], .int .i64 k1] w fun e w' => e = .returned (.bool true) ∧ Below w.heap.size w w' := by
  have hb0 := (Whole.fresh w 36 #[.slice A0 n0 c0, .slice A1 n1 c1, .int .i64 k0])
  have ht := below1 w (.cells #[.slice A0 n0 c0, .slice A1 n1 c1, .int .i64 k0] 36)
  have HX0 := Lib.hid hx0
  have HX1 := Lib.hid hx1
  clear hx0 hx1
  have hlen : (teachNums x0 x1 k0 k1).length ≤ 1048576 ∧ (teachRows x0 x1 k0 k1).length ≤ 1048576 := teach_le (by have := HX0.out; omega) (by have := HX1.out; omega)
  obtain ⟨hb0_0, hb0_1, hb0_2⟩ := hb0.cells3
  have hb0_l := hb0.lt
  go_enter Try.func14, Try.ntmps14
  -- region 2
  go_wp2_with fail
  refine (szCrew_any A0 n0 c0 A1 n1 c1 k0 (1048576) _ (by omega) (by omega) (by omega) (by omega)).mono ?_
  rintro e v1 ⟨rfl, hb⟩
  rw [crewLeft_ok (by omega)]
  have hz1 : w.heap.size + 1 ≤ v1.heap.size := by have := hb.size; simpa using this
  replace ht := below_then ht hb ht.size
  replace hb0 := hb0.below hb
  clear hb
  clear hb0_0 hb0_1 hb0_2 hb0_l
  obtain ⟨hb0_0, hb0_1, hb0_2⟩ := hb0.cells3
  have hb0_l := hb0.lt
  -- region 5
  go_wp2_with fail
  refine (toCrew_own A0 n0 c0 x0 A1 n1 c1 x1 k0 _ (by exact h0.below ht) (by exact h1.below ht) HX0.out HX1.out (by omega) (by omega)).mono ?_
  rintro e v2 ⟨gp0, gp1, rfl, hgp0, hwp0, hgp1, hwp1, hb⟩
  have hz2 : v1.heap.size ≤ v2.heap.size := by have := hb.size; simpa using this
  replace ht := below_then ht hb ht.size
  replace hb0 := hb0.below hb
  have hgmp0 : v1.heap.size ≤ gp1 ∧ gp1 < v2.heap.size := ⟨by have := hgp0; (try simp at this); omega, hwp1.lt⟩
  have hp0 := Fresh.of_whole (lo := v1.heap.size) (hi := gp1) hwp0 (by simpa using hgp0) hgp1
  have hp1 := Fresh.of_whole (lo := gp1) (hi := v2.heap.size) hwp1 (Nat.le_refl _) hwp1.lt
  clear hgp0 hwp0 hgp1 hwp1
  clear hb
  clear hb0_0 hb0_1 hb0_2 hb0_l
  obtain ⟨hb0_0, hb0_1, hb0_2⟩ := hb0.cells3
  have hb0_l := hb0.lt
  go_wp2_with fail
  refine (specTeachPerson_any _ n0 _ n1 x0 x1 k0 k1 _ (by exact hp0.holds) (by exact hp1.holds) HX0.out HX1.out (by omega) (by omega) (fun h => by cases h)).mono ?_
  rintro e v3 ⟨B0, q0, C0, p0, rfl, hF0, hG0, hb⟩
  have hz3 : v2.heap.size ≤ v3.heap.size := by have := hb.size; simpa using this
  replace ht := below_then ht hb ht.size
  replace hb0 := hb0.below hb
  replace hp0 := hp0.below hb
  replace hp1 := hp1.below hb
  replace hF0 := hF0.more (lo' := v2.heap.size) (hi' := v3.heap.size) (by simp) (Nat.le_refl _)
  replace hG0 := hG0.more (lo' := v2.heap.size) (hi' := v3.heap.size) (by simp) (Nat.le_refl _)
  have hR0 := Whole.fresh v3 39 #[.slice B0 (teachNums x0 x1 k0 k1).length q0, .slice C0 (teachRows x0 x1 k0 k1).length p0, .int .i64 (teachMost x0 x1 k0 k1)]
  replace ht := ht.alloc ht.size (.cells #[.slice B0 (teachNums x0 x1 k0 k1).length q0, .slice C0 (teachRows x0 x1 k0 k1).length p0, .int .i64 (teachMost x0 x1 k0 k1)] 39)
  replace hb0 := hb0.alloc (.cells #[.slice B0 (teachNums x0 x1 k0 k1).length q0, .slice C0 (teachRows x0 x1 k0 k1).length p0, .int .i64 (teachMost x0 x1 k0 k1)] 39)
  replace hp0 := hp0.alloc (.cells #[.slice B0 (teachNums x0 x1 k0 k1).length q0, .slice C0 (teachRows x0 x1 k0 k1).length p0, .int .i64 (teachMost x0 x1 k0 k1)] 39)
  replace hp1 := hp1.alloc (.cells #[.slice B0 (teachNums x0 x1 k0 k1).length q0, .slice C0 (teachRows x0 x1 k0 k1).length p0, .int .i64 (teachMost x0 x1 k0 k1)] 39)
  replace hF0 := hF0.alloc (.cells #[.slice B0 (teachNums x0 x1 k0 k1).length q0, .slice C0 (teachRows x0 x1 k0 k1).length p0, .int .i64 (teachMost x0 x1 k0 k1)] 39)
  replace hG0 := hG0.alloc (.cells #[.slice B0 (teachNums x0 x1 k0 k1).length q0, .slice C0 (teachRows x0 x1 k0 k1).length p0, .int .i64 (teachMost x0 x1 k0 k1)] 39)
  clear hb
  clear hp0 hp1
  clear hb0_0 hb0_1 hb0_2 hb0_l
  obtain ⟨hb0_0, hb0_1, hb0_2⟩ := hb0.cells3
  have hb0_l := hb0.lt
  obtain ⟨hR0_0, hR0_1, hR0_2⟩ := hR0.cells3
  have hR0_l := hR0.lt
  -- region 6
  go_wp2_with fail
  refine (toCrew_own A0 n0 c0 x0 A1 n1 c1 x1 k0 _ (by exact h0.below ht) (by exact h1.below ht) HX0.out HX1.out (by omega) (by omega)).mono ?_
  rintro e v4 ⟨gx0, gx1, rfl, hgx0, hwx0, hgx1, hwx1, hb⟩
  have hz4 : v3.heap.size + 1 ≤ v4.heap.size := by have := hb.size; simpa using this
  replace ht := below_then ht hb ht.size
  replace hb0 := hb0.below hb
  replace hF0 := hF0.below hb
  replace hG0 := hG0.below hb
  replace hR0 := hR0.below hb
  have hgmx0 : v3.heap.size + 1 ≤ gx1 ∧ gx1 < v4.heap.size := ⟨by have := hgx0; (try simp at this); omega, hwx1.lt⟩
  have hx0 := Fresh.of_whole (lo := v3.heap.size + 1) (hi := gx1) hwx0 (by simpa using hgx0) hgx1
  have hx1 := Fresh.of_whole (lo := gx1) (hi := v4.heap.size) hwx1 (Nat.le_refl _) hwx1.lt
  clear hgx0 hwx0 hgx1 hwx1
  clear hb
  have hx90 := Whole.fresh v4 39 #[.slice (some ⟨gx0, 0, none⟩) n0 n0, .slice (some ⟨gx1, 0, none⟩) n1 n1, .int .i64 k0]
  replace ht := ht.alloc ht.size (.cells #[.slice (some ⟨gx0, 0, none⟩) n0 n0, .slice (some ⟨gx1, 0, none⟩) n1 n1, .int .i64 k0] 39)
  replace hb0 := hb0.alloc (.cells #[.slice (some ⟨gx0, 0, none⟩) n0 n0, .slice (some ⟨gx1, 0, none⟩) n1 n1, .int .i64 k0] 39)
  replace hF0 := hF0.alloc (.cells #[.slice (some ⟨gx0, 0, none⟩) n0 n0, .slice (some ⟨gx1, 0, none⟩) n1 n1, .int .i64 k0] 39)
  replace hG0 := hG0.alloc (.cells #[.slice (some ⟨gx0, 0, none⟩) n0 n0, .slice (some ⟨gx1, 0, none⟩) n1 n1, .int .i64 k0] 39)
  replace hR0 := hR0.alloc (.cells #[.slice (some ⟨gx0, 0, none⟩) n0 n0, .slice (some ⟨gx1, 0, none⟩) n1 n1, .int .i64 k0] 39)
  replace hx0 := hx0.alloc (.cells #[.slice (some ⟨gx0, 0, none⟩) n0 n0, .slice (some ⟨gx1, 0, none⟩) n1 n1, .int .i64 k0] 39)
  replace hx1 := hx1.alloc (.cells #[.slice (some ⟨gx0, 0, none⟩) n0 n0, .slice (some ⟨gx1, 0, none⟩) n1 n1, .int .i64 k0] 39)
  clear hb0_0 hb0_1 hb0_2 hb0_l hR0_0 hR0_1 hR0_2 hR0_l
  obtain ⟨hb0_0, hb0_1, hb0_2⟩ := hb0.cells3
  have hb0_l := hb0.lt
  obtain ⟨hR0_0, hR0_1, hR0_2⟩ := hR0.cells3
  have hR0_l := hR0.lt
  obtain ⟨hx90_0, hx90_1, hx90_2⟩ := hx90.cells3
  have hx90_l := hx90.lt
  -- region 7
  go_wp2_with fail
  refine (implTeachPerson_any _ n0 _ n1 x0 x1 k0 k1 _ (by exact hx0.holds) (by exact hx1.holds) HX0.out HX1.out (by omega) (by omega) (fun h => by cases h)).mono ?_
  rintro e v5 ⟨B1, q1, C1, p1, rfl, hF1, hG1, hb⟩
  have hz5 : v4.heap.size + 1 ≤ v5.heap.size := by have := hb.size; simpa using this
  replace ht := below_then ht hb ht.size
  replace hb0 := hb0.below hb
  replace hF0 := hF0.below hb
  replace hG0 := hG0.below hb
  replace hR0 := hR0.below hb
  replace hx0 := hx0.below hb
  replace hx1 := hx1.below hb
  replace hx90 := hx90.below hb
  replace hF1 := hF1.more (lo' := v4.heap.size + 1) (hi' := v5.heap.size) (by simp) (Nat.le_refl _)
  replace hG1 := hG1.more (lo' := v4.heap.size + 1) (hi' := v5.heap.size) (by simp) (Nat.le_refl _)
  have hR1 := Whole.fresh v5 39 #[.slice B1 (teachNums x0 x1 k0 k1).length q1, .slice C1 (teachRows x0 x1 k0 k1).length p1, .int .i64 (teachMost x0 x1 k0 k1)]
  replace ht := ht.alloc ht.size (.cells #[.slice B1 (teachNums x0 x1 k0 k1).length q1, .slice C1 (teachRows x0 x1 k0 k1).length p1, .int .i64 (teachMost x0 x1 k0 k1)] 39)
  replace hb0 := hb0.alloc (.cells #[.slice B1 (teachNums x0 x1 k0 k1).length q1, .slice C1 (teachRows x0 x1 k0 k1).length p1, .int .i64 (teachMost x0 x1 k0 k1)] 39)
  replace hF0 := hF0.alloc (.cells #[.slice B1 (teachNums x0 x1 k0 k1).length q1, .slice C1 (teachRows x0 x1 k0 k1).length p1, .int .i64 (teachMost x0 x1 k0 k1)] 39)
  replace hG0 := hG0.alloc (.cells #[.slice B1 (teachNums x0 x1 k0 k1).length q1, .slice C1 (teachRows x0 x1 k0 k1).length p1, .int .i64 (teachMost x0 x1 k0 k1)] 39)
  replace hR0 := hR0.alloc (.cells #[.slice B1 (teachNums x0 x1 k0 k1).length q1, .slice C1 (teachRows x0 x1 k0 k1).length p1, .int .i64 (teachMost x0 x1 k0 k1)] 39)
  replace hx0 := hx0.alloc (.cells #[.slice B1 (teachNums x0 x1 k0 k1).length q1, .slice C1 (teachRows x0 x1 k0 k1).length p1, .int .i64 (teachMost x0 x1 k0 k1)] 39)
  replace hx1 := hx1.alloc (.cells #[.slice B1 (teachNums x0 x1 k0 k1).length q1, .slice C1 (teachRows x0 x1 k0 k1).length p1, .int .i64 (teachMost x0 x1 k0 k1)] 39)
  replace hx90 := hx90.alloc (.cells #[.slice B1 (teachNums x0 x1 k0 k1).length q1, .slice C1 (teachRows x0 x1 k0 k1).length p1, .int .i64 (teachMost x0 x1 k0 k1)] 39)
  replace hF1 := hF1.alloc (.cells #[.slice B1 (teachNums x0 x1 k0 k1).length q1, .slice C1 (teachRows x0 x1 k0 k1).length p1, .int .i64 (teachMost x0 x1 k0 k1)] 39)
  replace hG1 := hG1.alloc (.cells #[.slice B1 (teachNums x0 x1 k0 k1).length q1, .slice C1 (teachRows x0 x1 k0 k1).length p1, .int .i64 (teachMost x0 x1 k0 k1)] 39)
  clear hb
  clear hb0_0 hb0_1 hb0_2 hb0_l hR0_0 hR0_1 hR0_2 hR0_l hx90_0 hx90_1 hx90_2 hx90_l
  obtain ⟨hb0_0, hb0_1, hb0_2⟩ := hb0.cells3
  have hb0_l := hb0.lt
  obtain ⟨hR0_0, hR0_1, hR0_2⟩ := hR0.cells3
  have hR0_l := hR0.lt
  obtain ⟨hx90_0, hx90_1, hx90_2⟩ := hx90.cells3
  have hx90_l := hx90.lt
  obtain ⟨hR1_0, hR1_1, hR1_2⟩ := hR1.cells3
  have hR1_l := hR1.lt
  -- region 8
  go_wp2_with fail
  refine (eqCrew_yes B1 B0 (teachNums x0 x1 k0 k1).length q1 q0 (teachNums x0 x1 k0 k1) C1 C0 (teachRows x0 x1 k0 k1).length p1 p0 (teachRows x0 x1 k0 k1) (teachMost x0 x1 k0 k1) _ (by exact hF1.holds) (by exact hF0.holds) (by exact hG1.holds) (by exact hG0.holds) rfl rfl (by omega) (by omega)).mono ?_
  rintro e v6 ⟨rfl, hb⟩
  have hz6 : v5.heap.size + 1 ≤ v6.heap.size := by have := hb.size; simpa using this
  replace ht := below_then ht hb ht.size
  replace hb0 := hb0.below hb
  replace hF0 := hF0.below hb
  replace hG0 := hG0.below hb
  replace hR0 := hR0.below hb
  replace hx0 := hx0.below hb
  replace hx1 := hx1.below hb
  replace hx90 := hx90.below hb
  replace hF1 := hF1.below hb
  replace hG1 := hG1.below hb
  replace hR1 := hR1.below hb
  clear hb
  clear hb0_0 hb0_1 hb0_2 hb0_l hR0_0 hR0_1 hR0_2 hR0_l hx90_0 hx90_1 hx90_2 hx90_l hR1_0 hR1_1 hR1_2 hR1_l
  obtain ⟨hb0_0, hb0_1, hb0_2⟩ := hb0.cells3
  have hb0_l := hb0.lt
  obtain ⟨hR0_0, hR0_1, hR0_2⟩ := hR0.cells3
  have hR0_l := hR0.lt
  obtain ⟨hx90_0, hx90_1, hx90_2⟩ := hx90.cells3
  have hx90_l := hx90.lt
  obtain ⟨hR1_0, hR1_1, hR1_2⟩ := hR1.cells3
  have hR1_l := hR1.lt
  -- region 10
  clear hb0_0 hb0_1 hb0_2 hb0_l hR0_0 hR0_1 hR0_2 hR0_l hx90_0 hx90_1 hx90_2 hx90_l hR1_0 hR1_1 hR1_2 hR1_l
  go_wp2_with fail
  refine wp_region_held_drew (S := (fun w' => w'.cell? ⟨w.heap.size, 0, none⟩ = some (.slice A0 n0 c0) ∧ w'.cell? ⟨w.heap.size, 1, none⟩ = some (.slice A1 n1 c1) ∧ w'.cell? ⟨w.heap.size, 2, none⟩ = some (.int .i64 k0) ∧ w'.cell? ⟨v3.heap.size, 0, none⟩ = some (.slice B0 (teachNums x0 x1 k0 k1).length q0) ∧ w'.cell? ⟨v3.heap.size, 1, none⟩ = some (.slice C0 (teachRows x0 x1 k0 k1).length p0) ∧ w'.cell? ⟨v3.heap.size, 2, none⟩ = some (.int .i64 (teachMost x0 x1 k0 k1)) ∧ w'.cell? ⟨v4.heap.size, 0, none⟩ = some (.slice (some ⟨gx0, 0, none⟩) n0 n0) ∧ w'.cell? ⟨v4.heap.size, 1, none⟩ = some (.slice (some ⟨gx1, 0, none⟩) n1 n1) ∧ w'.cell? ⟨v4.heap.size, 2, none⟩ = some (.int .i64 k0) ∧ w'.cell? ⟨v5.heap.size, 0, none⟩ = some (.slice B1 (teachNums x0 x1 k0 k1).length q1) ∧ w'.cell? ⟨v5.heap.size, 1, none⟩ = some (.slice C1 (teachRows x0 x1 k0 k1).length p1) ∧ w'.cell? ⟨v5.heap.size, 2, none⟩ = some (.int .i64 (teachMost x0 x1 k0 k1)))) (by kernel_rfl) ⟨hb0.drew.cell 0, hb0.drew.cell 1, hb0.drew.cell 2, hR0.drew.cell 0, hR0.drew.cell 1, hR0.drew.cell 2, hx90.drew.cell 0, hx90.drew.cell 1, hx90.drew.cell 2, hR1.drew.cell 0, hR1.drew.cell 1, hR1.drew.cell 2⟩ (fun hHeld => ?_)
  replace ht := ht.drew
  replace hb0 := hb0.drew
  replace hF0 := hF0.drew
  replace hG0 := hG0.drew
  replace hR0 := hR0.drew
  replace hx0 := hx0.drew
  replace hx1 := hx1.drew
  replace hx90 := hx90.drew
  replace hF1 := hF1.drew
  replace hG1 := hG1.drew
  replace hR1 := hR1.drew
  refine wpAnyH_take (i := 0) (v := ?_) rfl (by kernel_rfl) (by kernel_rfl) (by kernel_rfl) (fun _ _ _ h => h) (Or.inl ⟨rfl, ?_⟩) hHeld ?_
  rotate_left
  · intro w' hS; obtain ⟨s0, s1, s2, s3, s4, s5, s6, s7, s8, s9, s10, s11⟩ := hS; go_simp <;> with_reducible rfl
  simp only [Act.put, List.getElem_toArray, List.getElem_cons_succ, List.getElem_cons_zero, List.setIfInBounds_toArray, List.set_cons_succ, List.set_cons_zero]
  refine wpAnyH_take (i := 1) (v := ?_) rfl (by kernel_rfl) (by kernel_rfl) (by kernel_rfl) (fun _ _ _ h => h) (Or.inl ⟨rfl, ?_⟩) hHeld ?_
  rotate_left
  · intro w' hS; obtain ⟨s0, s1, s2, s3, s4, s5, s6, s7, s8, s9, s10, s11⟩ := hS; go_simp <;> with_reducible rfl
  simp only [Act.put, List.getElem_toArray, List.getElem_cons_succ, List.getElem_cons_zero, List.setIfInBounds_toArray, List.set_cons_succ, List.set_cons_zero]
  refine wpAnyH_ready (rs := [2]) (by kernel_rfl) (by simp) (AllReadyH.cons rfl (fun K hK => ?_) AllReadyH.nil)
  go_simp
  refine (toCrew_own A0 n0 c0 x0 A1 n1 c1 x1 k0 _ (by exact h0.below ht) (by exact h1.below ht) HX0.out HX1.out (by omega) (by omega)).mono ?_
  rintro e v7 ⟨gy0, gy1, rfl, hgy0, hwy0, hgy1, hwy1, hb⟩
  have hz7 : v6.heap.size ≤ v7.heap.size := by have := hb.size; simpa using this
  replace ht := below_then ht hb ht.size
  replace hb0 := hb0.below hb
  replace hF0 := hF0.below hb
  replace hG0 := hG0.below hb
  replace hR0 := hR0.below hb
  replace hx0 := hx0.below hb
  replace hx1 := hx1.below hb
  replace hx90 := hx90.below hb
  replace hF1 := hF1.below hb
  replace hG1 := hG1.below hb
  replace hR1 := hR1.below hb
  have hgmy0 : v6.heap.size ≤ gy1 ∧ gy1 < v7.heap.size := ⟨by have := hgy0; (try simp at this); omega, hwy1.lt⟩
  have hy0 := Fresh.of_whole (lo := v6.heap.size) (hi := gy1) hwy0 (by simpa using hgy0) hgy1
  have hy1 := Fresh.of_whole (lo := gy1) (hi := v7.heap.size) hwy1 (Nat.le_refl _) hwy1.lt
  clear hgy0 hwy0 hgy1 hwy1
  clear hb
  refine hK.out _ _ ⟨hb0.cell 0, hb0.cell 1, hb0.cell 2, hR0.cell 0, hR0.cell 1, hR0.cell 2, hx90.cell 0, hx90.cell 1, hx90.cell 2, hR1.cell 0, hR1.cell 1, hR1.cell 2⟩ (fun hHeld => ?_)
  clear hK K
  try simp only [Act.put, List.getElem_toArray, List.getElem_cons_succ, List.getElem_cons_zero, List.setIfInBounds_toArray, List.set_cons_succ, List.set_cons_zero]
  refine wpAnyH_ready (rs := [3]) (by kernel_rfl) (by simp) (AllReadyH.cons rfl (fun K hK => ?_) AllReadyH.nil)
  go_simp
  refine (eqCrew_yes _ _ n0 _ _ x0 _ _ n1 _ _ x1 k0 _ (by exact hx0.holds) (by exact hy0.holds) (by exact hx1.holds) (by exact hy1.holds) HX0.out HX1.out (by omega) (by omega)).mono ?_
  rintro e v8 ⟨rfl, hb⟩
  have hz8 : v7.heap.size ≤ v8.heap.size := by have := hb.size; simpa using this
  replace ht := below_then ht hb ht.size
  replace hb0 := hb0.below hb
  replace hF0 := hF0.below hb
  replace hG0 := hG0.below hb
  replace hR0 := hR0.below hb
  replace hx0 := hx0.below hb
  replace hx1 := hx1.below hb
  replace hx90 := hx90.below hb
  replace hF1 := hF1.below hb
  replace hG1 := hG1.below hb
  replace hR1 := hR1.below hb
  replace hy0 := hy0.below hb
  replace hy1 := hy1.below hb
  clear hb
  clear hy0 hy1
  refine hK.out _ _ ⟨hb0.cell 0, hb0.cell 1, hb0.cell 2, hR0.cell 0, hR0.cell 1, hR0.cell 2, hx90.cell 0, hx90.cell 1, hx90.cell 2, hR1.cell 0, hR1.cell 1, hR1.cell 2⟩ (fun hHeld => ?_)
  clear hK K
  try simp only [Act.put, List.getElem_toArray, List.getElem_cons_succ, List.getElem_cons_zero, List.setIfInBounds_toArray, List.set_cons_succ, List.set_cons_zero]
  refine wpAnyH_take (i := 4) (v := ?_) rfl (by kernel_rfl) (by kernel_rfl) (by kernel_rfl) (fun _ _ _ h => h) (Or.inl ⟨rfl, ?_⟩) hHeld ?_
  rotate_left
  · intro w' hS; obtain ⟨s0, s1, s2, s3, s4, s5, s6, s7, s8, s9, s10, s11⟩ := hS; go_simp <;> with_reducible rfl
  simp only [Act.put, List.getElem_toArray, List.getElem_cons_succ, List.getElem_cons_zero, List.setIfInBounds_toArray, List.set_cons_succ, List.set_cons_zero]
  refine wpAnyH_done (by kernel_rfl) ?_ _
  clear hHeld
  obtain ⟨hb0_0, hb0_1, hb0_2⟩ := hb0.cells3
  have hb0_l := hb0.lt
  obtain ⟨hR0_0, hR0_1, hR0_2⟩ := hR0.cells3
  have hR0_l := hR0.lt
  obtain ⟨hx90_0, hx90_1, hx90_2⟩ := hx90.cells3
  have hx90_l := hx90.lt
  obtain ⟨hR1_0, hR1_1, hR1_2⟩ := hR1.cells3
  have hR1_l := hR1.lt
  -- region 13
  go_wp2_with fail
  refine (markCrew_any (some ⟨gx0, 0, none⟩) n0 n0 _ _ _ _ (some ⟨gx1, 0, none⟩) n1 n1 _ k0 (1) _ hx0 hx1 (by rw [nums_len]; exact HX0.out) (by rw [bits_len]; exact HX1.out) (by omega) (by omega) (by omega) (by omega) (by omega) (by omega) (by omega)).mono ?_
  rintro e v9 ⟨rfl, hs, -⟩
  have hsz := ht.size
  replace ht := hs.below ht (by omega) hsz
  replace hb0 := hs.whole hb0 (by omega)
  replace hF0 := hs.fresh hF0 (by omega)
  replace hG0 := hs.fresh hG0 (by omega)
  replace hR0 := hs.whole hR0 (by omega)
  replace hF1 := hs.fresh hF1 (by omega)
  replace hG1 := hs.fresh hG1 (by omega)
  replace hR1 := hs.whole hR1 (by omega)
  clear hs hsz hx0 hx1 hx90
  have hk_1 : (0 : Int) ≤ 1 + (n0 : Int) + (n1 : Int) := by omega
  clear hb0_0 hb0_1 hb0_2 hb0_l hR0_0 hR0_1 hR0_2 hR0_l hx90_0 hx90_1 hx90_2 hx90_l hR1_0 hR1_1 hR1_2 hR1_l
  obtain ⟨hb0_0, hb0_1, hb0_2⟩ := hb0.cells3
  have hb0_l := hb0.lt
  obtain ⟨hR0_0, hR0_1, hR0_2⟩ := hR0.cells3
  have hR0_l := hR0.lt
  obtain ⟨hR1_0, hR1_1, hR1_2⟩ := hR1.cells3
  have hR1_l := hR1.lt
  -- region 14
  go_wp2_with fail
  refine (eqCrew_yes B1 B0 (teachNums x0 x1 k0 k1).length q1 q0 (teachNums x0 x1 k0 k1) C1 C0 (teachRows x0 x1 k0 k1).length p1 p0 (teachRows x0 x1 k0 k1) (teachMost x0 x1 k0 k1) _ (by exact hF1.holds) (by exact hF0.holds) (by exact hG1.holds) (by exact hG0.holds) rfl rfl (by omega) (by omega)).mono ?_
  rintro e v10 ⟨rfl, hb⟩
  have hz10 : v9.heap.size ≤ v10.heap.size := by have := hb.size; simpa using this
  replace ht := below_then ht hb ht.size
  replace hb0 := hb0.below hb
  replace hF0 := hF0.below hb
  replace hG0 := hG0.below hb
  replace hR0 := hR0.below hb
  replace hF1 := hF1.below hb
  replace hG1 := hG1.below hb
  replace hR1 := hR1.below hb
  clear hb
  clear hb0_0 hb0_1 hb0_2 hb0_l hR0_0 hR0_1 hR0_2 hR0_l hR1_0 hR1_1 hR1_2 hR1_l
  obtain ⟨hb0_0, hb0_1, hb0_2⟩ := hb0.cells3
  have hb0_l := hb0.lt
  obtain ⟨hR0_0, hR0_1, hR0_2⟩ := hR0.cells3
  have hR0_l := hR0.lt
  obtain ⟨hR1_0, hR1_1, hR1_2⟩ := hR1.cells3
  have hR1_l := hR1.lt
  -- region 17
  go_wp2_with fail
  refine (markCrew_apart B1 (teachNums x0 x1 k0 k1).length q1 _ _ _ C1 (teachRows x0 x1 k0 k1).length p1 _ (teachMost x0 x1 k0 k1) 1 _ hF1 hG1 (by rw [nums_len]) (by rw [bits_len]) (by omega) (by omega) (by omega) (by omega) (by omega) (by omega)).mono ?_
  rintro e v11 ⟨rfl, hs, hM, hN⟩
  have hsz := ht.size
  replace ht := hs.below ht (by omega) hsz
  replace hb0 := hs.whole hb0 (by omega)
  replace hF0 := hs.fresh hF0 (by omega)
  replace hG0 := hs.fresh hG0 (by omega)
  replace hR0 := hs.whole hR0 (by omega)
  replace hR1 := hs.whole hR1 (by omega)
  clear hs hF1 hsz hG1
  clear hb0_0 hb0_1 hb0_2 hb0_l hR0_0 hR0_1 hR0_2 hR0_l hR1_0 hR1_1 hR1_2 hR1_l
  obtain ⟨hb0_0, hb0_1, hb0_2⟩ := hb0.cells3
  have hb0_l := hb0.lt
  obtain ⟨hR0_0, hR0_1, hR0_2⟩ := hR0.cells3
  have hR0_l := hR0.lt
  obtain ⟨hR1_0, hR1_1, hR1_2⟩ := hR1.cells3
  have hR1_l := hR1.lt
  -- region 19
  go_wp2_with fail
  refine (heldCrew_any B1 (teachNums x0 x1 k0 k1).length q1 C1 (teachRows x0 x1 k0 k1).length p1 (teachMost x0 x1 k0 k1) 1 _ (by exact hM.holds) (by exact hN.holds) (by omega) (by omega) (by omega) (by omega)).mono ?_
  rintro e v12 ⟨rfl, hb⟩
  have hz12 : v11.heap.size ≤ v12.heap.size := by have := hb.size; simpa using this
  replace ht := below_then ht hb ht.size
  replace hb0 := hb0.below hb
  replace hF0 := hF0.below hb
  replace hG0 := hG0.below hb
  replace hR0 := hR0.below hb
  replace hR1 := hR1.below hb
  replace hM := hM.below hb
  replace hN := hN.below hb
  clear hb
  have hm0 : (0 : Int) ≤ 1 + ((teachNums x0 x1 k0 k1).length + (teachRows x0 x1 k0 k1).length : Int) := by omega
  clear hb0_0 hb0_1 hb0_2 hb0_l hR0_0 hR0_1 hR0_2 hR0_l hR1_0 hR1_1 hR1_2 hR1_l
  obtain ⟨hb0_0, hb0_1, hb0_2⟩ := hb0.cells3
  have hb0_l := hb0.lt
  obtain ⟨hR0_0, hR0_1, hR0_2⟩ := hR0.cells3
  have hR0_l := hR0.lt
  obtain ⟨hR1_0, hR1_1, hR1_2⟩ := hR1.cells3
  have hR1_l := hR1.lt
  -- region 24
  go_wp2_with fail
  refine (toCrew_own A0 n0 c0 x0 A1 n1 c1 x1 k0 _ (by exact h0.below ht) (by exact h1.below ht) HX0.out HX1.out (by omega) (by omega)).mono ?_
  rintro e v13 ⟨gr0, gr1, rfl, hgr0, hwr0, hgr1, hwr1, hb⟩
  have hz13 : v12.heap.size ≤ v13.heap.size := by have := hb.size; simpa using this
  replace ht := below_then ht hb ht.size
  replace hb0 := hb0.below hb
  replace hF0 := hF0.below hb
  replace hG0 := hG0.below hb
  replace hR0 := hR0.below hb
  replace hR1 := hR1.below hb
  replace hM := hM.below hb
  replace hN := hN.below hb
  have hgmr0 : v12.heap.size ≤ gr1 ∧ gr1 < v13.heap.size := ⟨by have := hgr0; (try simp at this); omega, hwr1.lt⟩
  have hr0 := Fresh.of_whole (lo := v12.heap.size) (hi := gr1) hwr0 (by simpa using hgr0) hgr1
  have hr1 := Fresh.of_whole (lo := gr1) (hi := v13.heap.size) hwr1 (Nat.le_refl _) hwr1.lt
  clear hgr0 hwr0 hgr1 hwr1
  clear hb
  clear hb0_0 hb0_1 hb0_2 hb0_l hR0_0 hR0_1 hR0_2 hR0_l hR1_0 hR1_1 hR1_2 hR1_l
  obtain ⟨hb0_0, hb0_1, hb0_2⟩ := hb0.cells3
  have hb0_l := hb0.lt
  obtain ⟨hR0_0, hR0_1, hR0_2⟩ := hR0.cells3
  have hR0_l := hR0.lt
  obtain ⟨hR1_0, hR1_1, hR1_2⟩ := hR1.cells3
  have hR1_l := hR1.lt
  go_wp2_with fail
  refine (implTeachPerson_any _ n0 _ n1 x0 x1 k0 k1 _ (by exact hr0.holds) (by exact hr1.holds) HX0.out HX1.out (by omega) (by omega) (fun h => by cases h)).mono ?_
  rintro e v14 ⟨B2, q2, C2, p2, rfl, hF2, hG2, hb⟩
  have hz14 : v13.heap.size ≤ v14.heap.size := by have := hb.size; simpa using this
  replace ht := below_then ht hb ht.size
  replace hb0 := hb0.below hb
  replace hF0 := hF0.below hb
  replace hG0 := hG0.below hb
  replace hR0 := hR0.below hb
  replace hR1 := hR1.below hb
  replace hM := hM.below hb
  replace hN := hN.below hb
  replace hr0 := hr0.below hb
  replace hr1 := hr1.below hb
  replace hF2 := hF2.more (lo' := v13.heap.size) (hi' := v14.heap.size) (by simp) (Nat.le_refl _)
  replace hG2 := hG2.more (lo' := v13.heap.size) (hi' := v14.heap.size) (by simp) (Nat.le_refl _)
  have hR2 := Whole.fresh v14 39 #[.slice B2 (teachNums x0 x1 k0 k1).length q2, .slice C2 (teachRows x0 x1 k0 k1).length p2, .int .i64 (teachMost x0 x1 k0 k1)]
  replace ht := ht.alloc ht.size (.cells #[.slice B2 (teachNums x0 x1 k0 k1).length q2, .slice C2 (teachRows x0 x1 k0 k1).length p2, .int .i64 (teachMost x0 x1 k0 k1)] 39)
  replace hb0 := hb0.alloc (.cells #[.slice B2 (teachNums x0 x1 k0 k1).length q2, .slice C2 (teachRows x0 x1 k0 k1).length p2, .int .i64 (teachMost x0 x1 k0 k1)] 39)
  replace hF0 := hF0.alloc (.cells #[.slice B2 (teachNums x0 x1 k0 k1).length q2, .slice C2 (teachRows x0 x1 k0 k1).length p2, .int .i64 (teachMost x0 x1 k0 k1)] 39)
  replace hG0 := hG0.alloc (.cells #[.slice B2 (teachNums x0 x1 k0 k1).length q2, .slice C2 (teachRows x0 x1 k0 k1).length p2, .int .i64 (teachMost x0 x1 k0 k1)] 39)
  replace hR0 := hR0.alloc (.cells #[.slice B2 (teachNums x0 x1 k0 k1).length q2, .slice C2 (teachRows x0 x1 k0 k1).length p2, .int .i64 (teachMost x0 x1 k0 k1)] 39)
  replace hR1 := hR1.alloc (.cells #[.slice B2 (teachNums x0 x1 k0 k1).length q2, .slice C2 (teachRows x0 x1 k0 k1).length p2, .int .i64 (teachMost x0 x1 k0 k1)] 39)
  replace hM := hM.alloc (.cells #[.slice B2 (teachNums x0 x1 k0 k1).length q2, .slice C2 (teachRows x0 x1 k0 k1).length p2, .int .i64 (teachMost x0 x1 k0 k1)] 39)
  replace hN := hN.alloc (.cells #[.slice B2 (teachNums x0 x1 k0 k1).length q2, .slice C2 (teachRows x0 x1 k0 k1).length p2, .int .i64 (teachMost x0 x1 k0 k1)] 39)
  replace hr0 := hr0.alloc (.cells #[.slice B2 (teachNums x0 x1 k0 k1).length q2, .slice C2 (teachRows x0 x1 k0 k1).length p2, .int .i64 (teachMost x0 x1 k0 k1)] 39)
  replace hr1 := hr1.alloc (.cells #[.slice B2 (teachNums x0 x1 k0 k1).length q2, .slice C2 (teachRows x0 x1 k0 k1).length p2, .int .i64 (teachMost x0 x1 k0 k1)] 39)
  replace hF2 := hF2.alloc (.cells #[.slice B2 (teachNums x0 x1 k0 k1).length q2, .slice C2 (teachRows x0 x1 k0 k1).length p2, .int .i64 (teachMost x0 x1 k0 k1)] 39)
  replace hG2 := hG2.alloc (.cells #[.slice B2 (teachNums x0 x1 k0 k1).length q2, .slice C2 (teachRows x0 x1 k0 k1).length p2, .int .i64 (teachMost x0 x1 k0 k1)] 39)
  clear hb
  clear hr0 hr1
  clear hb0_0 hb0_1 hb0_2 hb0_l hR0_0 hR0_1 hR0_2 hR0_l hR1_0 hR1_1 hR1_2 hR1_l
  obtain ⟨hb0_0, hb0_1, hb0_2⟩ := hb0.cells3
  have hb0_l := hb0.lt
  obtain ⟨hR0_0, hR0_1, hR0_2⟩ := hR0.cells3
  have hR0_l := hR0.lt
  obtain ⟨hR1_0, hR1_1, hR1_2⟩ := hR1.cells3
  have hR1_l := hR1.lt
  obtain ⟨hR2_0, hR2_1, hR2_2⟩ := hR2.cells3
  have hR2_l := hR2.lt
  -- region 25
  go_wp2_with fail
  refine (eqCrew_yes B2 B0 (teachNums x0 x1 k0 k1).length q2 q0 (teachNums x0 x1 k0 k1) C2 C0 (teachRows x0 x1 k0 k1).length p2 p0 (teachRows x0 x1 k0 k1) (teachMost x0 x1 k0 k1) _ (by exact hF2.holds) (by exact hF0.holds) (by exact hG2.holds) (by exact hG0.holds) rfl rfl (by omega) (by omega)).mono ?_
  rintro e v15 ⟨rfl, hb⟩
  have hz15 : v14.heap.size + 1 ≤ v15.heap.size := by have := hb.size; simpa using this
  replace ht := below_then ht hb ht.size
  replace hb0 := hb0.below hb
  replace hF0 := hF0.below hb
  replace hG0 := hG0.below hb
  replace hR0 := hR0.below hb
  replace hR1 := hR1.below hb
  replace hM := hM.below hb
  replace hN := hN.below hb
  replace hF2 := hF2.below hb
  replace hG2 := hG2.below hb
  replace hR2 := hR2.below hb
  clear hb
  clear hb0_0 hb0_1 hb0_2 hb0_l hR0_0 hR0_1 hR0_2 hR0_l hR1_0 hR1_1 hR1_2 hR1_l hR2_0 hR2_1 hR2_2 hR2_l
  obtain ⟨hb0_0, hb0_1, hb0_2⟩ := hb0.cells3
  have hb0_l := hb0.lt
  obtain ⟨hR0_0, hR0_1, hR0_2⟩ := hR0.cells3
  have hR0_l := hR0.lt
  obtain ⟨hR1_0, hR1_1, hR1_2⟩ := hR1.cells3
  have hR1_l := hR1.lt
  obtain ⟨hR2_0, hR2_1, hR2_2⟩ := hR2.cells3
  have hR2_l := hR2.lt
  -- region 28
  go_wp2_with fail
  refine (heldCrew_any B1 (teachNums x0 x1 k0 k1).length q1 C1 (teachRows x0 x1 k0 k1).length p1 (teachMost x0 x1 k0 k1) 1 _ (by exact hM.holds) (by exact hN.holds) (by omega) (by omega) (by omega) (by omega)).mono ?_
  rintro e v16 ⟨rfl, hb⟩
  have hz16 : v15.heap.size ≤ v16.heap.size := by have := hb.size; simpa using this
  replace ht := below_then ht hb ht.size
  replace hb0 := hb0.below hb
  replace hF0 := hF0.below hb
  replace hG0 := hG0.below hb
  replace hR0 := hR0.below hb
  replace hR1 := hR1.below hb
  replace hM := hM.below hb
  replace hN := hN.below hb
  replace hF2 := hF2.below hb
  replace hG2 := hG2.below hb
  replace hR2 := hR2.below hb
  clear hb
  clear hb0_0 hb0_1 hb0_2 hb0_l hR0_0 hR0_1 hR0_2 hR0_l hR1_0 hR1_1 hR1_2 hR1_l hR2_0 hR2_1 hR2_2 hR2_l
  obtain ⟨hb0_0, hb0_1, hb0_2⟩ := hb0.cells3
  have hb0_l := hb0.lt
  obtain ⟨hR0_0, hR0_1, hR0_2⟩ := hR0.cells3
  have hR0_l := hR0.lt
  obtain ⟨hR1_0, hR1_1, hR1_2⟩ := hR1.cells3
  have hR1_l := hR1.lt
  obtain ⟨hR2_0, hR2_1, hR2_2⟩ := hR2.cells3
  have hR2_l := hR2.lt
  go_wp2
  go_ret
  exact ⟨rfl, ht⟩

theorem lawTeachPerson_all (A0 : Option Addr) (n0 c0 : Nat) (x0 : List Int) (A1 : Option Addr) (n1 c1 : Nat) (x1 : List Bool) (k0 : Int) (k1 : Int) (w : World) (h0 : Holds w A0 (nums x0)) (hx0 : x0.length = n0) (hn0 : n0 ≤ 9223372036854775807) (h1 : Holds w A1 (bits x1)) (hx1 : x1.length = n1) (hn1 : n1 ≤ 9223372036854775807) (_hk1 : -9223372036854775808 ≤ k1 ∧ k1 ≤ 9223372036854775807) :
    Calls Try.prog 14 #[.agg #[.slice A0 n0 c0, .slice A1 n1 c1, .int .i64 k0], .int .i64 k1] w fun e w' => e = .returned (.bool true) ∧ Below w.heap.size w w' := by
  rcases (inferInstance : Decidable (0 ≤ 1048576 - (n0 : Int) - (n1 : Int))) with g0 | g0
  · exact lawTeachPerson_big0 A0 n0 c0 x0 A1 n1 c1 x1 k0 k1 w h0 hx0 hn0 h1 hx1 hn1  (by omega)
  exact lawTeachPerson_small A0 n0 c0 x0 A1 n1 c1 x1 k0 k1 w h0 hx0 hn0 h1 hx1 hn1 g0
end Go.Proofs.Ytoedcieofjcgkaa
