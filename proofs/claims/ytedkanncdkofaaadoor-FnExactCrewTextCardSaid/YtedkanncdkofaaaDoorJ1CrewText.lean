/-
  What is proved: contracts of the model's and the program's tests of a crew. Conditions: the crew's weights are read as they lie.
  What is proved: words laid behind a beginning, one by one, with a sign between them. Conditions: none.
  What is proved: contracts of CrewText, of the model and of the program. Conditions: the weights and rowers are read as they lie; the table of powers of ten lies as told (the program).
  What is proved: contracts of the laws' own helpers for crews: their size, their copy, their comparison, their marks. Conditions: the given lists are read as they lie; a copy is of at most 1,048,576 values.
  What is proved: the law FnExactCrewText returns true at every argument, and leaves all that was there as it was. Conditions: the arguments are read as they lie.
-/
import Derived.Deep.RegionHeld3
import Derived.Test.YtedkanncdkofaaaDoorJ1NightText
set_option linter.unusedSimpArgs false
set_option linter.unusedVariables false
namespace Go.Proofs.YtedkanncdkofaaaDoor
open Go.RowKit

/-- A crew, told in plain words: up to seven people with weights up to 500, for each of them whether it rows, and a boat that carries up to 2000. -/
def isCrew (xs : List Int) (m : Nat) (s : Int) : Bool := within xs.length 1 7 && (decide (m = xs.length) && (allIn xs 1 500 && within s 0 2000))
theorem isCrew_len {xs : List Int} {m : Nat} {s : Int} (h : xs.length < 1 ∨ 7 < xs.length) : isCrew xs m s = false := by
  simp only [isCrew, within_no (show (xs.length : Int) < 1 ∨ (7 : Int) < xs.length by omega), Bool.false_and]
theorem isCrew_rows {xs : List Int} {m : Nat} {s : Int} (h : m ≠ xs.length) : isCrew xs m s = false := by
  simp only [isCrew, decide_eq_false h, Bool.false_and, Bool.and_false]
theorem isCrew_all {xs : List Int} {m : Nat} {s : Int} (h : allIn xs 1 500 = false) : isCrew xs m s = false := by
  simp only [isCrew, h, Bool.false_and, Bool.and_false]
theorem isCrew_most {xs : List Int} {m : Nat} {s : Int} (h : s < 0 ∨ 2000 < s) : isCrew xs m s = false := by
  simp only [isCrew, within_no h, Bool.and_false]
theorem isCrew_min {xs : List Int} {m : Nat} {s : Int} (h1 : 0 < xs.length) (h : leastOf xs < 1) : isCrew xs m s = false := by
  have hne : xs ≠ [] := by intro e; subst e; simp at h1
  refine isCrew_all ?_
  cases h3 : allIn xs 1 500
  · rfl
  · have h4 := (le_leastOf hne 1).2 fun y hy => ((allIn_iff _ _ _).1 h3 y hy).1
    omega
theorem isCrew_max {xs : List Int} {m : Nat} {s : Int} (h1 : 0 < xs.length) (h : 500 < mostOf xs) : isCrew xs m s = false := by
  have hne : xs ≠ [] := by intro e; subst e; simp at h1
  refine isCrew_all ?_
  cases h3 : allIn xs 1 500
  · rfl
  · have h4 := (mostOf_le hne 500).2 fun y hy => ((allIn_iff _ _ _).1 h3 y hy).2
    omega
theorem isCrew_yes {xs : List Int} {m : Nat} {s : Int} (h1 : 0 < xs.length) (h7 : xs.length ≤ 7) (hm : m = xs.length) (h : 1 ≤ leastOf xs) (h' : mostOf xs ≤ 500) (hs : 0 ≤ s) (hs' : s ≤ 2000) : isCrew xs m s = true := by
  have hne : xs ≠ [] := by intro e; subst e; simp at h1
  have h3 : allIn xs 1 500 = true := (allIn_iff _ _ _).2 fun y hy => ⟨(le_leastOf hne 1).1 h y hy, (mostOf_le hne 500).1 h' y hy⟩
  simp only [isCrew, h3, within_yes hs hs', within_yes (show (1 : Int) ≤ xs.length by omega) (show (xs.length : Int) ≤ 7 by omega), hm, decide_true, Bool.and_self]
/-- What a crew is. -/
structure CrewOk (xs : List Int) (m : Nat) (s : Int) : Prop where
  one : 1 ≤ xs.length
  seven : xs.length ≤ 7
  rows : m = xs.length
  weights : ∀ y ∈ xs, 1 ≤ y ∧ y ≤ 500
  most : 0 ≤ s ∧ s ≤ 4000
theorem isCrew_ok {xs : List Int} {m : Nat} {s : Int} (h : isCrew xs m s = true) : CrewOk xs m s := by
  simp only [isCrew, Bool.and_eq_true, within_iff, decide_eq_true_eq, allIn_iff] at h
  obtain ⟨⟨h1, h2⟩, h3, h4, h5⟩ := h
  exact ⟨by omega, by omega, h3, h4, by omega⟩

set_option maxHeartbeats 800000 in
theorem loGood_any (A : Option Addr) (n c : Nat) (B : Option Addr) (m d : Nat) (xs : List Int) (s : Int) (w : World) (hA : Holds w A (nums xs)) (hx : xs.length = n) (hn : n ≤ 9223372036854775807) :
    Calls Tryd.prog 85 #[.agg #[.slice A n c, .slice B m d, .int .i64 s]] w fun e w' => e = .returned (.bool (isCrew xs m s)) ∧ Below w.heap.size w w' := by
  subst hx
  have hB := hA.alloc (.cells #[.slice A xs.length c, .slice B m d, .int .i64 s] 53)
  cases h1 : within xs.length 1 7
  · have HP : Hid (isCrew xs m s = false) := by show _ = _; simp [isCrew, h1]
    have H1 := Lib.hid h1
    clear h1
    go_enter Tryd.func85, Tryd.ntmps85
    go_wp2_with fail
    refine (l1In_any _ _ _ _).mono ?_
    rintro e w' ⟨rfl, rfl⟩
    rw [H1.out]
    go_wp2
    go_ret
    exact ⟨ret_of (by rw [HP.out]; rfl), below1 w _⟩
  · by_cases hm : m = xs.length
    · have hm' : ((m : Int) == (xs.length : Int)) = true := by simp [hm]
      cases h2 : allIn xs 1 500
      · have HP : Hid (isCrew xs m s = false) := isCrew_all h2
        have H1 := Lib.hid h1
        have H2 := Lib.hid h2
        have HM := Lib.hid hm
        clear h1 h2 hm
        go_enter Tryd.func85, Tryd.ntmps85
        go_wp2_with fail
        refine (l1In_any _ _ _ _).mono ?_
        rintro e w' ⟨rfl, rfl⟩
        rw [H1.out]
        go_wp2_with fail
        refine (l1All_any _ _ _ xs _ _ _ hB rfl hn).mono ?_
        rintro e w' ⟨rfl, rfl⟩
        rw [H2.out]
        go_wp2
        go_ret
        exact ⟨ret_of (by rw [HP.out]; rfl), below1 w _⟩
      · have HP : Hid (isCrew xs m s = within s 0 2000) := by show _ = _; simp [isCrew, h1, h2, hm]
        have H1 := Lib.hid h1
        have H2 := Lib.hid h2
        have HM := Lib.hid hm
        clear h1 h2 hm
        go_enter Tryd.func85, Tryd.ntmps85
        go_wp2_with fail
        refine (l1In_any _ _ _ _).mono ?_
        rintro e w' ⟨rfl, rfl⟩
        rw [H1.out]
        go_wp2_with fail
        refine (l1All_any _ _ _ xs _ _ _ hB rfl hn).mono ?_
        rintro e w' ⟨rfl, rfl⟩
        rw [H2.out]
        go_wp2_with fail
        refine (l1In_any _ _ _ _).mono ?_
        rintro e w' ⟨rfl, rfl⟩
        go_wp2
        go_ret
        exact ⟨ret_of (by rw [HP.out]; rfl), below1 w _⟩
    · have hm' : ((m : Int) == (xs.length : Int)) = false := by simp; omega
      have HP : Hid (isCrew xs m s = false) := isCrew_rows hm
      have H1 := Lib.hid h1
      clear h1 hm
      go_enter Tryd.func85, Tryd.ntmps85
      go_wp2_with fail
      refine (l1In_any _ _ _ _).mono ?_
      rintro e w' ⟨rfl, rfl⟩
      rw [H1.out]
      go_wp2
      go_ret
      exact ⟨ret_of (by rw [HP.out]; rfl), below1 w _⟩

set_option maxHeartbeats 800000 in
theorem isCrew_any (A : Option Addr) (n c : Nat) (B : Option Addr) (m d : Nat) (xs : List Int) (s : Int) (w : World) (hA : Holds w A (nums xs)) (hx : xs.length = n) (hn : n ≤ 9223372036854775807) :
    Calls Tryd.prog 88 #[.agg #[.slice A n c, .slice B m d, .int .i64 s]] w fun e w' => e = .returned (.bool (isCrew xs m s)) ∧ Below w.heap.size w w' := by
  subst hx
  have hB := hA.alloc (.cells #[.slice A xs.length c, .slice B m d, .int .i64 s] 53)
  by_cases h1 : xs.length < 1
  · have HP := Lib.hid (isCrew_len (m := m) (s := s) (.inl h1))
    go_enter Tryd.func88, Tryd.ntmps88
    go_wp2
    go_ret
    exact ⟨ret_of (by rw [HP.out]; first | rfl | (simp; done) | (simp; omega)), below1 w _⟩
  by_cases h8 : 7 < xs.length
  · have HP := Lib.hid (isCrew_len (m := m) (s := s) (.inr h8))
    go_enter Tryd.func88, Tryd.ntmps88
    go_wp2
    go_ret
    exact ⟨ret_of (by rw [HP.out]; first | rfl | (simp; done) | (simp; omega)), below1 w _⟩
  by_cases hm : m ≠ xs.length
  · have HP := Lib.hid (isCrew_rows (s := s) hm)
    have hm' : ((m : Int) != (xs.length : Int)) = true := by simp; omega
    go_enter Tryd.func88, Tryd.ntmps88
    go_wp2
    go_ret
    exact ⟨ret_of (by rw [HP.out]; first | rfl | (simp; done) | (simp; omega)), below1 w _⟩
  have hm' : ((m : Int) != (xs.length : Int)) = false := by simp; omega
  have hme : m = xs.length := by omega
  have HM := Lib.hid hme
  clear hm hme
  have hp : 0 < xs.length := by omega
  by_cases hl : leastOf xs < 1
  · have HP := Lib.hid (isCrew_min (m := m) (s := s) hp hl)
    go_enter Tryd.func88, Tryd.ntmps88
    go_wp2_with fail
    refine (sliceMin_any A _ c xs _ hB rfl hp hn).mono ?_
    rintro e w' ⟨rfl, rfl⟩
    go_wp2
    go_ret
    exact ⟨ret_of (by rw [HP.out]; first | rfl | (simp; done) | (simp; omega)), below1 w _⟩
  by_cases hx5 : 500 < mostOf xs
  · have HP := Lib.hid (isCrew_max (m := m) (s := s) hp hx5)
    go_enter Tryd.func88, Tryd.ntmps88
    go_wp2_with fail
    refine (sliceMin_any A _ c xs _ hB rfl hp hn).mono ?_
    rintro e w' ⟨rfl, rfl⟩
    go_wp2_with fail
    refine (sliceMax_any A _ c xs _ hB rfl hp hn).mono ?_
    rintro e w' ⟨rfl, rfl⟩
    go_wp2
    go_ret
    exact ⟨ret_of (by rw [HP.out]; first | rfl | (simp; done) | (simp; omega)), below1 w _⟩
  by_cases hs0 : s < 0
  · have HP := Lib.hid (isCrew_most (xs := xs) (m := m) (.inl hs0))
    go_enter Tryd.func88, Tryd.ntmps88
    go_wp2_with fail
    refine (sliceMin_any A _ c xs _ hB rfl hp hn).mono ?_
    rintro e w' ⟨rfl, rfl⟩
    go_wp2_with fail
    refine (sliceMax_any A _ c xs _ hB rfl hp hn).mono ?_
    rintro e w' ⟨rfl, rfl⟩
    go_wp2
    go_ret
    exact ⟨ret_of (by rw [HP.out]; first | rfl | (simp; done) | (simp; omega)), below1 w _⟩
  by_cases hs2 : 2000 < s
  · have HP := Lib.hid (isCrew_most (xs := xs) (m := m) (.inr hs2))
    go_enter Tryd.func88, Tryd.ntmps88
    go_wp2_with fail
    refine (sliceMin_any A _ c xs _ hB rfl hp hn).mono ?_
    rintro e w' ⟨rfl, rfl⟩
    go_wp2_with fail
    refine (sliceMax_any A _ c xs _ hB rfl hp hn).mono ?_
    rintro e w' ⟨rfl, rfl⟩
    go_wp2
    go_ret
    exact ⟨ret_of (by rw [HP.out]; first | rfl | (simp; done) | (simp; omega)), below1 w _⟩
  · have HP := Lib.hid (isCrew_yes (s := s) hp (by omega) HM.out (by omega) (by omega) (by omega) (by omega))
    go_enter Tryd.func88, Tryd.ntmps88
    go_wp2_with fail
    refine (sliceMin_any A _ c xs _ hB rfl hp hn).mono ?_
    rintro e w' ⟨rfl, rfl⟩
    go_wp2_with fail
    refine (sliceMax_any A _ c xs _ hB rfl hp hn).mono ?_
    rintro e w' ⟨rfl, rfl⟩
    go_wp2
    go_ret
    exact ⟨ret_of (by rw [HP.out]; first | rfl | (simp; done) | (simp; omega)), below1 w _⟩
end Go.Proofs.YtedkanncdkofaaaDoor

namespace Go.Proofs.YtedkanncdkofaaaDoor
/-- A beginning and the first k words behind it. -/
def wordsUp (p : List UInt8) (ws : List (List UInt8)) (s : UInt8) (k : Nat) : List UInt8 := p ++ Lib.join (ws.take k) [s]
theorem wordsUp_zero (p : List UInt8) (ws : List (List UInt8)) (s : UInt8) : wordsUp p ws s 0 = p := by simp [wordsUp, Lib.join_nil]
theorem wordsUp_one (p : List UInt8) (ws : List (List UInt8)) (s : UInt8) (k : Nat) (h : k < ws.length) (h0 : k = 0) : wordsUp p ws s (k + 1) = wordsUp p ws s k ++ ws[k] := by
  subst h0
  rw [wordsUp_zero, wordsUp, join_take ws [s] 0 h]
  simp [Lib.join_nil]
theorem wordsUp_next (p : List UInt8) (ws : List (List UInt8)) (s : UInt8) (k : Nat) (h : k < ws.length) (h0 : k ≠ 0) : wordsUp p ws s (k + 1) = wordsUp p ws s k ++ [s] ++ ws[k] := by
  rw [wordsUp, join_take ws [s] k h, if_neg h0, wordsUp]
  simp [List.append_assoc]
theorem wordsUp_end (p : List UInt8) (ws : List (List UInt8)) (s : UInt8) (n : Nat) (h : ws.length = n) : wordsUp p ws s n = p ++ Lib.join ws [s] := by rw [wordsUp, List.take_of_length_le (by omega)]
theorem wordsUp_le (p : List UInt8) (ws : List (List UInt8)) (s : UInt8) (k m : Nat) (h : ∀ x ∈ ws, x.length ≤ m) : (wordsUp p ws s k).length ≤ p.length + ws.length * (m + 1) := by
  have := join_take_le ws [s] m k h
  simp only [List.length_singleton] at this
  rw [wordsUp, List.length_append]
  omega
end Go.Proofs.YtedkanncdkofaaaDoor

namespace Go.Proofs.YtedkanncdkofaaaDoor
open Go.RowKit

/-- The people of a crew as words. -/
def menOf (xs : List Int) (bs : List Bool) : List (List UInt8) := List.zipWith manText xs bs
theorem menOf_len {xs : List Int} {bs : List Bool} {n : Nat} (hx : xs.length = n) (hb : bs.length = n) : (menOf xs bs).length = n := by simp [menOf, hx, hb]
theorem menOf_at {xs : List Int} {bs : List Bool} {k : Nat} (h : k < (menOf xs bs).length) (hx : k < xs.length) (hb : k < bs.length) : (menOf xs bs)[k] = manText xs[k] bs[k] := by simp [menOf]
theorem menOf_le {xs : List Int} {bs : List Bool} (ht : ∀ x ∈ xs, x < 1000000) : ∀ y ∈ menOf xs bs, y.length ≤ 7 := by
  intro y hy
  obtain ⟨i, hi, rfl⟩ := List.getElem_of_mem hy
  have h1 : i < xs.length := by simp [menOf] at hi; omega
  have h2 : i < bs.length := by simp [menOf] at hi; omega
  rw [menOf_at hi h1 h2, manText, List.length_append]
  have := digs_le (ht xs[i] (List.getElem_mem h1))
  split <;> simp <;> omega
/-- What CrewText tells. -/
def crewTextOf (xs : List Int) (bs : List Bool) (m : Nat) (s : Int) : List UInt8 := if isCrew xs m s then crewText xs bs s else []
theorem isCrew_times {xs : List Int} {m : Nat} {s : Int} (h : isCrew xs m s = true) : xs.length ≤ 8 ∧ m = xs.length ∧ (0 ≤ s ∧ s < 1000000) ∧ (∀ x ∈ xs, 0 ≤ x ∧ x < 1000000) := by
  simp only [isCrew, within, allIn, Bool.and_eq_true, decide_eq_true_eq, List.all_eq_true] at h
  obtain ⟨h1, h2, h3, h4⟩ := h
  exact ⟨by omega, h2, by omega, fun x hx => by have := h3 x hx; omega⟩

set_option maxHeartbeats 3200000 in
set_option maxRecDepth 100000 in
theorem loText_any (A : Option Addr) (n c : Nat) (B : Option Addr) (d : Nat) (xs : List Int) (bs : List Bool) (s : Int) (w : World) (hA : Holds w A (nums xs)) (hB : Holds w B (bits bs)) (hx : xs.length = n) (hy : bs.length = n) (hn : n ≤ 8) (hs : 0 ≤ s ∧ s < 1000000) (ht : ∀ x ∈ xs, 0 ≤ x ∧ x < 1000000) :
    Calls Tryd.prog 86 #[.agg #[.slice A n c, .slice B n d, .int .i64 s]] w (StrPost (crewText xs bs s) w) := by
  have HX := Lib.hid hx
  have HY := Lib.hid hy
  have HT := Lib.hid ht
  have HS := Lib.hid hs
  have hl6 := digs_le hs.2
  have HML := Lib.hid (menOf_len hx hy)
  have HUL := Lib.hid (fun k => wordsUp_le (digs s ++ [61]) (menOf xs bs) 44 k 7 (menOf_le fun x h => (ht x h).2))
  have hA2 := hA.alloc (.cells #[.slice A n c, .slice B n d, .int .i64 s] 53)
  have h0 := Whole.fresh w 53 #[.slice A n c, .slice B n d, .int .i64 s]
  obtain ⟨c0, c1, c2⟩ := h0.cells3
  have ht0 := below1 w (.cells #[.slice A n c, .slice B n d, .int .i64 s] 53)
  clear hx hy ht hs
  go_enter Tryd.func86, Tryd.ntmps86
  go_wp2_with fail
  refine (l1Num_any s _ HS.out.1 HS.out.2).mono ?_
  rintro e w1 ⟨rfl, hb⟩
  have ht := below_then ht0 hb (by simp)
  replace h0 := h0.below hb
  clear hb ht0 c0 c1 c2
  obtain ⟨c0, c1, c2⟩ := h0.cells3
  have hcat := cat_to (digs s) [61] (wordsUp (digs s ++ [61]) (menOf xs bs) 44 0) (wordsUp_zero _ _ _) (by omega) (by simp)
  have HP := Lib.hid (show (digs s ++ [61]).length ≤ 7 by simp; omega)
  clear hl6
  go_wp2
  clear hcat
  go_loopw [3, 13] (fun v i wr => ∃ k : Nat, k ≤ n ∧ i = .int .i64 k ∧ v = .string (strOf (wordsUp (digs s ++ [61]) (menOf xs bs) 44 k)) ∧ Whole wr w.heap.size 53 #[.slice A n c, .slice B n d, .int .i64 s] ∧ Below w.heap.size w wr) (fun _ i _ => n - (intOf i).toNat)
  case atStart => exact ⟨0, Nat.zero_le _, rfl, rfl, h0, ht⟩
  case round =>
    obtain ⟨k, hk, rfl, rfl, hq, ht⟩ := hrel
    clear c0 c1 c2 h0
    have hlen := HUL.out k
    rw [HML.out] at hlen
    replace hlen : (wordsUp (digs s ++ [61]) (menOf xs bs) 44 k).length ≤ 100 := by have := HP.out; omega
    by_cases hlt : k < n
    · have hkx : k < xs.length := by have := HX.out; omega
      have hky : k < bs.length := by have := HY.out; omega
      have hkm : k < (menOf xs bs).length := by have := HML.out; omega
      obtain ⟨b1, o1, rfl, hbl1, hc⟩ := (hA.below ht).look (k := k) (by rw [nums_len]; exact hkx)
      obtain ⟨b2, o2, rfl, hbl2, hd⟩ := (hB.below ht).look (k := k) (by rw [bits_len]; exact hky)
      simp only [nums, bits, List.getElem_map] at hc hd
      have hxk := HT.out xs[k] (List.getElem_mem hkx)
      have hd6 := digs_le hxk.2
      have H1 := Lib.hid (wordsUp_one (digs s ++ [61]) (menOf xs bs) 44 k hkm)
      have HNX := Lib.hid (wordsUp_next (digs s ++ [61]) (menOf xs bs) 44 k hkm)
      rw [menOf_at hkm hkx hky] at H1 HNX
      generalize xs[k] = x at hc hxk hd6 H1 HNX
      generalize bs[k] = r at hd H1 HNX
      generalize hL1 : wordsUp (digs s ++ [61]) (menOf xs bs) 44 (k + 1) = L1 at H1 HNX
      have HL1 := Lib.hid hL1
      clear hL1
      generalize wordsUp (digs s ++ [61]) (menOf xs bs) 44 k = L0 at H1 HNX hlen
      rcases Nat.eq_zero_or_pos k with h1 | h1
      · obtain ⟨M, hM⟩ : ∃ M, M = L0 := ⟨_, rfl⟩
        have hnx := H1.out h1
        rw [← hM] at hnx
        have hMl : M.length ≤ 101 := by rw [hM]; omega
        have hkz : ¬ ((k : Int) > 0) := by omega
        rw [← hM]
        have hcat0 := True.intro
        obtain ⟨M2, hM2⟩ : ∃ M2, M2 = M ++ digs x := ⟨_, rfl⟩
        have hM2l : M2.length ≤ 107 := by rw [hM2]; simp; omega
        have HC := Lib.hid (cat_to M (digs x) M2 hM2 (by omega) (by omega))
        cases r
        · have HE2 := Lib.hid (show M2 = L1 by rw [hnx, hM2]; simp [manText])
          clear hlen h1 hM hMl hnx hM2 hM2l
          go_wp2_with fail
          refine (l1Num_any x _ hxk.1 hxk.2).mono ?_
          rintro e w2 ⟨rfl, hb⟩
          have hd2 := (hb.cell (p := ⟨b2, o2 + k, none⟩) hbl2).trans hd
          replace ht := below_then ht hb ht.size
          replace hq := hq.below hb
          obtain ⟨c0, c1, c2⟩ := hq.cells3
          clear hcat0
          have hcat := HC.out
          clear hb hc hd hA hA2 hB
          go_wp2
          go_roundw
          case rel => exact ⟨k + 1, by omega, by go_num, by rw [HL1.out]; rw [HE2.out], hq, ht⟩
          case measure => simp [intOf]; omega
        · have HC2 := Lib.hid (cat_to M2 [114] L1 (by rw [hnx, hM2]; simp [manText]) (by omega) (by simp))
          clear hlen h1 hM hMl hnx hM2 hM2l
          go_wp2_with fail
          refine (l1Num_any x _ hxk.1 hxk.2).mono ?_
          rintro e w2 ⟨rfl, hb⟩
          have hd2 := (hb.cell (p := ⟨b2, o2 + k, none⟩) hbl2).trans hd
          replace ht := below_then ht hb ht.size
          replace hq := hq.below hb
          obtain ⟨c0, c1, c2⟩ := hq.cells3
          clear hcat0
          have hcat := HC.out
          have hcat2 := HC2.out
          clear hb hc hd hA hA2 hB
          go_wp2
          go_roundw
          case rel => exact ⟨k + 1, by omega, by go_num, by rw [HL1.out], hq, ht⟩
          case measure => simp [intOf]; omega
      · have hnx := HNX.out (by omega)
        obtain ⟨M, hM⟩ : ∃ M, M = L0 ++ [44] := ⟨_, rfl⟩
        rw [← hM] at hnx
        have hMl : M.length ≤ 101 := by rw [hM]; simp; omega
        have hkz : (k : Int) > 0 := by omega
        have hcat0 := cat_to L0 [44] M hM (by omega) (by simp)
        obtain ⟨M2, hM2⟩ : ∃ M2, M2 = M ++ digs x := ⟨_, rfl⟩
        have hM2l : M2.length ≤ 107 := by rw [hM2]; simp; omega
        have HC := Lib.hid (cat_to M (digs x) M2 hM2 (by omega) (by omega))
        cases r
        · have HE2 := Lib.hid (show M2 = L1 by rw [hnx, hM2]; simp [manText])
          clear hlen h1 hM hMl hnx hM2 hM2l
          go_wp2_with fail
          refine (l1Num_any x _ hxk.1 hxk.2).mono ?_
          rintro e w2 ⟨rfl, hb⟩
          have hd2 := (hb.cell (p := ⟨b2, o2 + k, none⟩) hbl2).trans hd
          replace ht := below_then ht hb ht.size
          replace hq := hq.below hb
          obtain ⟨c0, c1, c2⟩ := hq.cells3
          clear hcat0
          have hcat := HC.out
          clear hb hc hd hA hA2 hB
          go_wp2
          go_roundw
          case rel => exact ⟨k + 1, by omega, by go_num, by rw [HL1.out]; rw [HE2.out], hq, ht⟩
          case measure => simp [intOf]; omega
        · have HC2 := Lib.hid (cat_to M2 [114] L1 (by rw [hnx, hM2]; simp [manText]) (by omega) (by simp))
          clear hlen h1 hM hMl hnx hM2 hM2l
          go_wp2_with fail
          refine (l1Num_any x _ hxk.1 hxk.2).mono ?_
          rintro e w2 ⟨rfl, hb⟩
          have hd2 := (hb.cell (p := ⟨b2, o2 + k, none⟩) hbl2).trans hd
          replace ht := below_then ht hb ht.size
          replace hq := hq.below hb
          obtain ⟨c0, c1, c2⟩ := hq.cells3
          clear hcat0
          have hcat := HC.out
          have hcat2 := HC2.out
          clear hb hc hd hA hA2 hB
          go_wp2
          go_roundw
          case rel => exact ⟨k + 1, by omega, by go_num, by rw [HL1.out], hq, ht⟩
          case measure => simp [intOf]; omega
    · obtain rfl : k = n := by omega
      have HE := Lib.hid (wordsUp_end (digs s ++ [61]) (menOf xs bs) 44 k HML.out)
      go_wp2
      go_ret
      exact ⟨by rw [HE.out]; rfl, ht⟩

set_option maxHeartbeats 1600000 in
set_option maxRecDepth 100000 in
theorem specCrewText_any (A : Option Addr) (n c : Nat) (B : Option Addr) (m d : Nat) (xs : List Int) (bs : List Bool) (s : Int) (w : World) (hA : Holds w A (nums xs)) (hB : Holds w B (bits bs)) (hx : xs.length = n) (hy : bs.length = m) (hn : n ≤ 9223372036854775807) (hm : m ≤ 9223372036854775807) :
    Calls Tryd.prog 32 #[.agg #[.slice A n c, .slice B m d, .int .i64 s]] w (TextPost (crewTextOf xs bs m s) (isCrew xs m s) w) := by
  have HX := Lib.hid hx
  have HY := Lib.hid hy
  have hA2 := hA.alloc (.cells #[.slice A n c, .slice B m d, .int .i64 s] 53)
  have hB2 := hB.alloc (.cells #[.slice A n c, .slice B m d, .int .i64 s] 53)
  have h0 := Whole.fresh w 53 #[.slice A n c, .slice B m d, .int .i64 s]
  obtain ⟨c0, c1, c2⟩ := h0.cells3
  have ht0 := below1 w (.cells #[.slice A n c, .slice B m d, .int .i64 s] 53)
  clear hx hy
  go_enter Tryd.func32, Tryd.ntmps32
  go_wp2_with fail
  refine (loGood_any A n c B m d xs s _ hA2 HX.out hn).mono ?_
  rintro e w1 ⟨rfl, hb⟩
  have ht := below_then ht0 hb (by simp)
  replace h0 := h0.below hb
  replace hA2 := hA2.below hb
  replace hB2 := hB2.below hb
  clear hb ht0 c0 c1 c2
  obtain ⟨c0, c1, c2⟩ := h0.cells3
  cases hp : isCrew xs m s
  · have HO := Lib.hid (show crewTextOf xs bs m s = [] by rw [crewTextOf, hp]; rfl)
    have HP := Lib.hid hp
    clear hp
    go_wp2
    go_ret2
    exact ⟨by rw [HO.out, HP.out]; rfl, ht⟩
  · have HO := Lib.hid (show crewTextOf xs bs m s = crewText xs bs s by rw [crewTextOf, hp]; rfl)
    obtain ⟨h8, hmx, hs, hxs⟩ := isCrew_times hp
    have hmn : m = n := by rw [hmx, HX.out]
    subst hmn
    have HP := Lib.hid hp
    have HXS := Lib.hid hxs
    clear hp hmx hxs
    go_wp2_with fail
    refine (loText_any A m c B d xs bs s _ hA2 hB2 HX.out HY.out (by have := HX.out; omega) hs HXS.out).mono ?_
    rintro e w2 ⟨rfl, hb⟩
    replace ht := below_then ht hb ht.size
    clear hb c0 c1 c2
    go_wp2
    go_ret2
    exact ⟨by rw [HO.out, HP.out]; rfl, ht⟩

set_option maxHeartbeats 3200000 in
set_option maxRecDepth 100000 in
theorem implCrewText_any (A : Option Addr) (n c : Nat) (B : Option Addr) (m d : Nat) (xs : List Int) (bs : List Bool) (s : Int) (w : World) (hA : Holds w A (nums xs)) (hB : Holds w B (bits bs)) (hx : xs.length = n) (hy : bs.length = m) (hn : n ≤ 9223372036854775807) (hm : m ≤ 9223372036854775807) (hT : Tab w) :
    Calls Tryd.prog 34 #[.agg #[.slice A n c, .slice B m d, .int .i64 s]] w (TextPost (crewTextOf xs bs m s) (isCrew xs m s) w) := by
  have HX := Lib.hid hx
  have HY := Lib.hid hy
  have hA2 := hA.alloc (.cells #[.slice A n c, .slice B m d, .int .i64 s] 53)
  have h0 := Whole.fresh w 53 #[.slice A n c, .slice B m d, .int .i64 s]
  obtain ⟨c0, c1, c2⟩ := h0.cells3
  have ht0 := below1 w (.cells #[.slice A n c, .slice B m d, .int .i64 s] 53)
  clear hx hy
  go_enter Tryd.func34, Tryd.ntmps34
  go_wp2_with fail
  refine (isCrew_any A n c B m d xs s _ hA2 HX.out hn).mono ?_
  rintro e w1 ⟨rfl, hb⟩
  have ht := below_then ht0 hb (by simp)
  replace h0 := h0.below hb
  clear hb ht0 c0 c1 c2 hA2
  obtain ⟨c0, c1, c2⟩ := h0.cells3
  cases hp : isCrew xs m s
  · have HO := Lib.hid (show crewTextOf xs bs m s = [] by rw [crewTextOf, hp]; rfl)
    have HP := Lib.hid hp
    clear hp
    go_wp2
    go_ret2
    exact ⟨by rw [HO.out, HP.out]; rfl, ht⟩
  · have HO := Lib.hid (show crewTextOf xs bs m s = crewText xs bs s by rw [crewTextOf, hp]; rfl)
    obtain ⟨h8, hmx, hs, hxs⟩ := isCrew_times hp
    have hmn : m = n := by rw [hmx, HX.out]
    subst hmn
    have HP := Lib.hid hp
    have HXS := Lib.hid hxs
    have hm8 : m ≤ 8 := by omega
    have hml := menOf_len HX.out HY.out
    have HML := Lib.hid hml
    have hmk := fun W : World => make_strs (n := m) (menOf xs bs) (by omega) W
    have hl6 := digs_le hs.2
    have hle := join_le (menOf xs bs) [44] 7 (menOf_le fun x h => (hxs x h).2)
    rw [hml] at hle
    have HLE := Lib.hid (show (Lib.join (menOf xs bs) [44]).length ≤ 100 by simp at hle; omega)
    have hbl := h0.lt
    clear hp hxs hle hmx hml
    go_wp2
    have hG := Whole.fresh w1 9 (strsTo (menOf xs bs) m 0).toArray
    have hwz : w.heap.size ≤ w1.heap.size := ht.size
    replace h0 := h0.alloc (.cells (strsTo (menOf xs bs) m 0).toArray 9)
    replace ht := ht.alloc ht.size (.cells (strsTo (menOf xs bs) m 0).toArray 9)
    clear hmk c0 c1 c2
    go_loopw [17] (fun i wr => ∃ k : Nat, k ≤ m ∧ i = .int .i64 k ∧ Whole wr w1.heap.size 9 (strsTo (menOf xs bs) m k).toArray ∧ Whole wr w.heap.size 53 #[.slice A m c, .slice B m d, .int .i64 s] ∧ Below w.heap.size w wr) (fun i _ => m - (intOf i).toNat)
    case atStart => exact ⟨0, Nat.zero_le _, rfl, hG, h0, ht⟩
    case round =>
      obtain ⟨k, hk, rfl, hg, hq, hb⟩ := hrel
      clear hG h0 ht
      by_cases hlt : k < m
      · have hkx : k < xs.length := by have := HX.out; omega
        have hky : k < bs.length := by have := HY.out; omega
        have hkm : k < (menOf xs bs).length := by have := HML.out; omega
        obtain ⟨b1, o1, rfl, hbl1, hcw⟩ := hA.look (k := k) (by rw [nums_len]; exact hkx)
        obtain ⟨b2, o2, rfl, hbl2, hdw⟩ := hB.look (k := k) (by rw [bits_len]; exact hky)
        simp only [nums, bits, List.getElem_map] at hcw hdw
        have hc := (hb.cell (p := ⟨b1, o1 + k, none⟩) hbl1).trans hcw
        have hxk := HXS.out xs[k] (List.getElem_mem hkx)
        have HST := Lib.hid (strsTo_next (menOf xs bs) m k HML.out hlt)
        rw [menOf_at hkm hkx hky] at HST
        generalize xs[k] = x at hc hcw hxk HST
        generalize bs[k] = r at hdw HST
        have hd6 := digs_le hxk.2
        go_wp2_with fail
        refine (itoa_any x _ (hT.below hb) hxk.1 (by omega)).mono ?_
        rintro e w2 ⟨rfl, hbi⟩
        have hg2 := hg.below hbi
        have hq2 := hq.below hbi
        have hb2 := below_then hb hbi hb.size
        have hd := (hb2.cell (p := ⟨b2, o2 + k, none⟩) hbl2).trans hdw
        have hfr := hg2.open_ k
        have hset := hg2.set_ k (.string (strOf (digs x)))
        have hq3 := hq2.off (b := w1.heap.size) (o := k) (u := .string (strOf (digs x))) (by omega)
        have hb3 := below_set (o := k) (u := .string (strOf (digs x))) hb2 hwz
        obtain ⟨v0, hv0⟩ : ∃ v, (strsTo (menOf xs bs) m k).toArray[k]? = some v := ⟨_, by rw [List.getElem?_toArray]; exact List.getElem?_eq_getElem (by rw [strsTo_len _ _ _ HML.out hk]; exact hlt)⟩
        have hcell := (hg2.cell k).trans hv0
        obtain ⟨c0, c1, c2⟩ := hq2.cells3
        have hne1 : ¬ w.heap.size = w1.heap.size := by omega
        have hne2 : ¬ b2 = w1.heap.size := by omega
        cases r
        · rw [List.setIfInBounds_toArray, show digs x = manText x false by simp [manText], HST.out] at hset
          clear hb hbi hg hg2 hq hq2 hA hB hc hv0 hcw hdw
          go_wp2
          go_roundw
          case rel => exact ⟨k + 1, by omega, by go_num, by simpa [manText] using hset, hq3, hb3⟩
          case measure => simp [intOf]; omega
        · have hset2 := hset.set_ k (.string (strOf (manText x true)))
          have hq4 := hq3.off (b := w1.heap.size) (o := k) (u := .string (strOf (manText x true))) (by omega)
          have hb4 := below_set (o := k) (u := .string (strOf (manText x true))) hb3 hwz
          rw [List.setIfInBounds_toArray, List.setIfInBounds_toArray, List.set_set, HST.out] at hset2
          have hcat := cat_to (digs x) [114] (manText x true) (by simp [manText]) (by omega) (by simp)
          clear hb hbi hg hg2 hq hq2 hA hB hc hv0 hcw hdw hset
          go_wp2
          go_roundw
          case rel => exact ⟨k + 1, by omega, by go_num, hset2, hq4, hb4⟩
          case measure => simp [intOf]; omega
      · obtain rfl : k = m := by omega
        obtain ⟨c0, c1, c2⟩ := hq.cells3
        go_wp2_with fail
        refine (itoa_any s _ (hT.below hb) hs.1 (by omega)).mono ?_
        rintro e w2 ⟨rfl, hbi⟩
        replace hg := hg.below hbi
        have hb2 := below_then hb hbi hb.size
        clear hq c0 c1 c2 hb hbi
        rw [strsTo_all _ _ HML.out] at hg
        obtain ⟨M, hM⟩ : ∃ M, M = digs s ++ [61] := ⟨_, rfl⟩
        have hcat := cat_to (digs s) [61] M hM (by omega) (by simp)
        have hpt : crewText xs bs s = M ++ Lib.join (menOf xs bs) [44] := by rw [hM]; rfl
        have hMl : M.length ≤ 7 := by rw [hM]; simp; omega
        clear hM
        go_wp2_with fail
        have hhold := hg.holds
        refine (join_any _ k k (menOf xs bs) 44 _ (by simpa using hhold) HML.out (by omega) (Nat.le_refl _) (by have := HLE.out; omega)).mono ?_
        rintro e w3 ⟨rfl, hbj⟩
        have hb3 := below_then hb2 hbj hb2.size
        clear hcat
        have hcat := cat_to M (Lib.join (menOf xs bs) [44]) _ hpt (by omega) (by have := HLE.out; omega)
        clear hbj hb2 hg hhold hpt
        go_wp2
        go_ret2
        exact ⟨by rw [HO.out, HP.out]; rfl, hb3⟩
end Go.Proofs.YtedkanncdkofaaaDoor

namespace Go.Proofs.YtedkanncdkofaaaDoor
open Go.RowKit

/-- What is left of l behind two lists, or -1. -/
def crewLeft (l : Int) (n m : Nat) : Int := if l - n - m < 0 then -1 else l - n - m
theorem crewLeft_bad {l : Int} {n m : Nat} (h : l - n - m < 0) : crewLeft l n m = -1 := if_pos h
theorem crewLeft_ok {l : Int} {n m : Nat} (h : ¬ l - n - m < 0) : crewLeft l n m = l - n - m := if_neg h

set_option maxHeartbeats 400000 in
theorem szCrew_any (A : Option Addr) (n c : Nat) (B : Option Addr) (m d : Nat) (s l : Int) (w : World) (hn : n ≤ 9223372036854775807) (hm : m ≤ 9223372036854775807) (h0 : 0 ≤ l) (h1 : l ≤ 1048576) :
    Calls Tryd.prog 31 #[.agg #[.slice A n c, .slice B m d, .int .i64 s], .int .i64 l] w fun e w' => e = .returned (.int .i64 (crewLeft l n m)) ∧ Below w.heap.size w w' := by
  by_cases h : l < n
  · go_enter Tryd.func31, Tryd.ntmps31
    go_wp2_with fail
    refine (szIntS_any A n c l _ hn h0 h1).mono ?_
    rintro e w' ⟨rfl, rfl⟩
    rw [if_pos (by assumption)]
    go_wp2
    go_ret
    exact ⟨ret_of (by rw [crewLeft_bad (by omega)]; rfl), (Below.refl _ _).alloc (Nat.le_refl _) _⟩
  · have h0' : 0 ≤ l - n := by omega
    have h1' : ¬ l - n < 0 := by omega
    by_cases h2 : l - n < m
    all_goals
      go_enter Tryd.func31, Tryd.ntmps31
      go_wp2_with fail
      refine (szIntS_any A n c l _ hn h0 h1).mono ?_
      rintro e w' ⟨rfl, rfl⟩
      rw [if_neg (by omega)]
      go_wp2_with fail
      refine (szBoolS_any B m d (l - n) _ hm h0' (by omega)).mono ?_
      rintro e w' ⟨rfl, rfl⟩
      first | rw [if_pos (by assumption)] | rw [if_neg (by omega)]
      go_wp2
      go_ret
      exact ⟨ret_of (by first | (rw [crewLeft_bad (by omega)]; rfl) | (rw [crewLeft_ok (by omega)]; rfl)), (Below.refl _ _).alloc (Nat.le_refl _) _⟩

/-- What toCrew hands back. -/
def CrewTo (xs : List Int) (bs : List Bool) (n m : Nat) (s : Int) (w : World) (e : Ending) (w' : World) : Prop :=
  ∃ g h : Nat, e = .returned (.agg #[.slice (some ⟨g, 0, none⟩) n n, .slice (some ⟨h, 0, none⟩) m m, .int .i64 s]) ∧ w.heap.size ≤ g ∧ Whole w' g 3 (nums xs).toArray ∧ g < h ∧ Whole w' h 4 (bits bs).toArray ∧ Below w.heap.size w w'

set_option maxHeartbeats 1600000 in
theorem toCrew_own (A : Option Addr) (n c : Nat) (xs : List Int) (B : Option Addr) (m d : Nat) (bs : List Bool) (s : Int) (w : World) (hA : Holds w A (nums xs)) (hB : Holds w B (bits bs)) (hx : xs.length = n) (hy : bs.length = m) (hn : n ≤ 1048576) (hm : m ≤ 1048576) :
    Calls Tryd.prog 33 #[.agg #[.slice A n c, .slice B m d, .int .i64 s]] w (CrewTo xs bs n m s w) := by
  have HX := Lib.hid hx
  have HY := Lib.hid hy
  clear hx hy
  go_enter Tryd.func33, Tryd.ntmps33
  go_wp2_with fail
  refine (toIntS_any A n c xs _ (((hA.alloc _).alloc _).alloc _) HX.out hn).mono ?_
  rintro e w1 ⟨rfl, hw, hb, hs⟩
  have hy0 := ((Whole.fresh (w.alloc (.cells #[.slice A n c, .slice B m d, .int .i64 s] 50)) 53 #[.slice none 0 0, .slice none 0 0, .int .i64 0]).alloc (.cells #[.slice none 0 0, .slice none 0 0, .int .i64 0] 53)).below hb
  have hz0 := (Whole.fresh ((w.alloc (.cells #[.slice A n c, .slice B m d, .int .i64 s] 50)).alloc (.cells #[.slice none 0 0, .slice none 0 0, .int .i64 0] 53)) 53 #[.slice none 0 0, .slice none 0 0, .int .i64 0]).below hb
  have ha0 := (((Whole.fresh w 50 #[.slice A n c, .slice B m d, .int .i64 s]).alloc (.cells #[.slice none 0 0, .slice none 0 0, .int .i64 0] 53)).alloc (.cells #[.slice none 0 0, .slice none 0 0, .int .i64 0] 53)).below hb
  simp only [World.size_alloc] at hy0 hz0
  obtain ⟨ac0, ac1, ac2⟩ := ha0.cells3
  obtain ⟨yc0, yc1, yc2⟩ := hy0.cells3
  obtain ⟨zc0, zc1, zc2⟩ := hz0.cells3
  have zf0 := hz0.open_ 0
  have HS := Lib.hid hs
  have hz : w1.heap.size = w.heap.size + 4 := by have := HS.out; simp at this; omega
  clear hs
  have hw' : Whole w1 (w.heap.size + 1 + 1 + 1) 3 (nums xs).toArray := by simpa using hw
  have hb' : Below w.heap.size w w1 := below_then (below3 w _ _ _) hb (by simp; omega)
  clear hw
  have HZ := Lib.hid hz
  clear hz
  go_wp2_with fail
  have hz := HZ.out
  have hb2 : Below w.heap.size w (w1.setCell ⟨w.heap.size + 1 + 1, 0, none⟩ (.slice (some ⟨w.heap.size + 1 + 1 + 1, 0, none⟩) n n)) := below_set hb' (by omega)
  refine (toBoolS_any B m d bs _ (by exact hB.below hb2) HY.out hm).mono ?_
  rintro e w2 ⟨rfl, hv, hb3, hs2⟩
  have hy1 := (hy0.off (by omega)).below hb3
  have hz1 := (hz0.set_ 0 (.slice (some ⟨w.heap.size + 1 + 1 + 1, 0, none⟩) n n)).below hb3
  obtain ⟨yd0, yd1, yd2⟩ := hy1.cells3
  obtain ⟨zd0, zd1, zd2⟩ := (show Whole w2 (w.heap.size + 1 + 1) 53 #[.slice (some ⟨w.heap.size + 1 + 1 + 1, 0, none⟩) n n, .slice none 0 0, .int .i64 0] by simpa using hz1).cells3
  have ha1 := (ha0.off (b := w.heap.size + 1 + 1) (o := 0) (u := .slice (some ⟨w.heap.size + 1 + 1 + 1, 0, none⟩) n n) (by omega)).below hb3
  clear yc0 yc1 yc2 zc0 zc1 zc2 zf0 ac0 ac1 ac2
  obtain ⟨ad0, ad1, ad2⟩ := ha1.cells3
  have zf1 := hz1.open_ 1
  have zf2 := hz1.open_ 2
  have yf0 := hy1.open_ 0
  have yf1 := hy1.open_ 1
  have yf2 := hy1.open_ 2
  have hs1 : (w1.setCell ⟨w.heap.size + 1 + 1, 0, none⟩ (.slice (some ⟨w.heap.size + 1 + 1 + 1, 0, none⟩) n n)).heap.size = w1.heap.size := by simp [World.setCell]
  rw [hs1, hz] at hs2 hv
  have hw2 : Whole w2 (w.heap.size + 1 + 1 + 1) 3 (nums xs).toArray := (hw'.off (by omega)).below hb3
  have hb4 : Below w.heap.size w w2 := below_then hb2 hb3 hb2.size
  have HV := Lib.hid hv
  have HS2 := Lib.hid hs2
  clear hv hs2 hb3
  go_wp2
  have hv := HV.out
  refine bodyPost_ret (v := .agg #[.slice (some ⟨w.heap.size + 1 + 1 + 1, 0, none⟩) n n, .slice (some ⟨w.heap.size + 4, 0, none⟩) m m, .int .i64 s]) (by simp [results, Tryd.results33, go_sem, yd0, yd1, yd2, zd0, zd1, zd2]) rfl ⟨_, _, rfl, by omega, ?_, by omega, ?_, ?_⟩
  · exact ((((hw2.off (by omega)).off (by omega)).off (by omega)).off (by omega)).off (by omega)
  · exact ((((hv.off (by omega)).off (by omega)).off (by omega)).off (by omega)).off (by omega)
  · exact below_set (below_set (below_set (below_set (below_set hb4 (by omega)) (by omega)) (by omega)) (by omega)) (by omega)

/-- Two crews of one reading are the same. -/
theorem eqCrew_yes (A B : Option Addr) (n c d : Nat) (xs : List Int) (A' B' : Option Addr) (m c' d' : Nat) (bs : List Bool) (s : Int) (w : World) (hA : Holds w A (nums xs)) (hB : Holds w B (nums xs)) (hA' : Holds w A' (bits bs)) (hB' : Holds w B' (bits bs)) (hx : xs.length = n) (hy : bs.length = m) (hn : n ≤ 9223372036854775807) (hm : m ≤ 9223372036854775807) :
    Calls Tryd.prog 35 #[.agg #[.slice A n c, .slice A' m c', .int .i64 s], .agg #[.slice B n d, .slice B' m d', .int .i64 s]] w fun e w' => e = .returned (.bool true) ∧ Below w.heap.size w w' := by
  have HX := Lib.hid hx
  have HY := Lib.hid hy
  have HI := Lib.hid (sameInts_yes (a := xs) (b := xs) rfl)
  have HB := Lib.hid (sameBits_yes (a := bs) (b := bs) rfl)
  clear hx hy
  have hss : (!(s == s)) = false := by simp
  have hb2 := below2 w (.cells #[.slice A n c, .slice A' m c', .int .i64 s] 53) (.cells #[.slice B n d, .slice B' m d', .int .i64 s] 53)
  go_enter Tryd.func35, Tryd.ntmps35
  go_wp2_with fail
  refine (eqIntS_any A B n n c d xs xs _ (by exact hA.below hb2) (by exact hB.below hb2) HX.out HX.out hn hn).mono ?_
  rintro e w1 ⟨rfl, k, rfl⟩
  rw [HI.out]
  go_wp2_with fail
  refine (eqBoolS_any A' B' m m c' d' bs bs _ (by exact hA'.below (below_draws hb2 k)) (by exact hB'.below (below_draws hb2 k)) HY.out HY.out hm hm).mono ?_
  rintro e w2 ⟨rfl, k2, rfl⟩
  rw [HB.out]
  go_wp2
  go_ret
  exact ⟨rfl, below_draws hb2 (k + k2)⟩

set_option maxHeartbeats 800000 in
theorem markCrew_any (A : Option Addr) (n c lo mid hi : Nat) (xs : List Value) (B : Option Addr) (m d : Nat) (bs : List Value) (s q : Int) (w : World) (hf : Fresh w lo mid 3 A xs) (hg : Fresh w mid hi 4 B bs) (hx : xs.length = n) (hy : bs.length = m) (h0 : 0 ≤ q) (h1 : q ≤ 2305843009213693952) (hn : n ≤ 1048576) (hm : m ≤ 1048576) (hlo : lo ≤ mid) (hhi : mid ≤ hi) (hz : hi ≤ w.heap.size) :
    Calls Tryd.prog 38 #[.agg #[.slice A n c, .slice B m d, .int .i64 s], .int .i64 q] w fun e w' => e = .returned (.int .i64 (q + n + m)) ∧ Span lo hi w w' ∧ (Fresh w' lo mid 3 A (nums (marksI q n)) ∧ Fresh w' mid hi 4 B (bits (marksB (q + n) m))) := by
  have HX := Lib.hid hx
  have HY := Lib.hid hy
  clear hx hy
  have hb1 := Whole.fresh w 53 #[.slice A n c, .slice B m d, .int .i64 s]
  go_enter Tryd.func38, Tryd.ntmps38
  go_wp2_with fail
  refine (markIntS_any A n c lo mid xs q _ (hf.alloc _) HX.out h0 (by omega) hn).mono ?_
  rintro e w1 ⟨rfl, hs, hf1⟩
  have hq1 : (0 : Int) ≤ q + n := by omega
  have hbl := (below1 w (.cells #[.slice A n c, .slice B m d, .int .i64 s] 53))
  have hs0 : Span lo hi w w1 := (Span.of_below hbl lo hi).trans ⟨hs.os, hs.tape, hs.output, hs.size, fun k hk h => hs.block k hk (by omega)⟩
  have hb2 := hs.whole hb1 (by omega)
  obtain ⟨c0, c1, c2⟩ := hb2.cells3
  have hg1 := hs.fresh (hg.alloc (.cells #[.slice A n c, .slice B m d, .int .i64 s] 53)) (by omega)
  go_wp2_with fail
  refine (markBoolS_any B m d mid hi bs (q + n) _ hg1 HY.out hq1 (by omega) hm).mono ?_
  rintro e w2 ⟨rfl, hs2, hf2⟩
  have hs3 : Span lo hi w w2 := hs0.trans ⟨hs2.os, hs2.tape, hs2.output, hs2.size, fun k hk h => hs2.block k hk (by omega)⟩
  have hf3 := hs2.fresh hf1 (by omega)
  have hq2 : (0 : Int) ≤ q + n + m := by omega
  go_wp2
  go_ret
  exact ⟨rfl, hs3, hf3, hf2⟩

/-- A row lies in one block, or nowhere. -/
theorem Fresh.tight {w : World} {lo hi : Nat} {ty : TypeId} {A : Option Addr} {xs : List Value} (hf : Fresh w lo hi ty A xs) (hh : lo ≤ hi) : ∃ l r, Fresh w l r ty A xs ∧ lo ≤ l ∧ r ≤ hi ∧ ((l = lo ∧ r = lo) ∨ (r = l + 1 ∧ ∃ cs, Whole w l ty cs)) := by
  rcases hf with rfl | ⟨g, cs, hA, h1, h2, hw, h3, h4⟩
  · exact ⟨lo, lo, .inl rfl, Nat.le_refl _, hh, .inl ⟨rfl, rfl⟩⟩
  · exact ⟨g, g + 1, .inr ⟨g, cs, hA, Nat.le_refl _, Nat.lt_succ_self _, hw, h3, h4⟩, h1, h2, .inr ⟨rfl, cs, hw⟩⟩
theorem whole_other {w : World} {g h : Nat} {t u : TypeId} {a b : Array Value} (h1 : Whole w g t a) (h2 : Whole w h u b) (hn : t ≠ u) : g ≠ h := by
  rintro rfl
  have e : some (Obj.cells a t (0, 0)) = some (Obj.cells b u (0, 0)) := h1.symm.trans h2
  simp at e
  exact hn e.2

set_option maxHeartbeats 800000 in
theorem markCrew_apart (A : Option Addr) (n c lo hi : Nat) (xs : List Value) (B : Option Addr) (m d : Nat) (bs : List Value) (s q : Int) (w : World) (hf : Fresh w lo hi 3 A xs) (hg : Fresh w lo hi 4 B bs) (hx : xs.length = n) (hy : bs.length = m) (h0 : 0 ≤ q) (h1 : q ≤ 2305843009213693952) (hn : n ≤ 1048576) (hm : m ≤ 1048576) (hh : lo ≤ hi) (hz : hi ≤ w.heap.size) :
    Calls Tryd.prog 38 #[.agg #[.slice A n c, .slice B m d, .int .i64 s], .int .i64 q] w fun e w' => e = .returned (.int .i64 (q + n + m)) ∧ Span lo hi w w' ∧ Fresh w' lo hi 3 A (nums (marksI q n)) ∧ Fresh w' lo hi 4 B (bits (marksB (q + n) m)) := by
  have HX := Lib.hid hx
  have HY := Lib.hid hy
  clear hx hy
  obtain ⟨l1, r1, hf1, ha1, hb1, hc1⟩ := hf.tight hh
  obtain ⟨l2, r2, hg1, ha2, hb2, hc2⟩ := hg.tight hh
  have hd : r1 ≤ l2 ∨ r2 ≤ l1 := by
    rcases hc1 with ⟨e1, e2⟩ | ⟨e1, cs1, hw1⟩
    · exact .inl (by omega)
    · rcases hc2 with ⟨e3, e4⟩ | ⟨e3, cs2, hw2⟩
      · exact .inr (by omega)
      · have := whole_other hw1 hw2 (by decide)
        omega
  have hbx := Whole.fresh w 53 #[.slice A n c, .slice B m d, .int .i64 s]
  clear hf hg hc1 hc2
  go_enter Tryd.func38, Tryd.ntmps38
  go_wp2_with fail
  refine (markIntS_any A n c l1 r1 xs q _ (hf1.alloc _) HX.out h0 (by omega) hn).mono ?_
  rintro e w1 ⟨rfl, hs, hf2⟩
  have hq1 : (0 : Int) ≤ q + n := by omega
  have hbl := (below1 w (.cells #[.slice A n c, .slice B m d, .int .i64 s] 53))
  have hs0 : Span lo hi w w1 := (Span.of_below hbl lo hi).trans ⟨hs.os, hs.tape, hs.output, hs.size, fun k hk h => hs.block k hk (by omega)⟩
  obtain ⟨c0, c1, c2⟩ := (hs.whole hbx (by omega)).cells3
  have hg2 := hs.fresh (hg1.alloc (.cells #[.slice A n c, .slice B m d, .int .i64 s] 53)) (by omega)
  go_wp2_with fail
  refine (markBoolS_any B m d l2 r2 bs (q + n) _ hg2 HY.out hq1 (by omega) hm).mono ?_
  rintro e w2 ⟨rfl, hs2, hg3⟩
  have hs3 : Span lo hi w w2 := hs0.trans ⟨hs2.os, hs2.tape, hs2.output, hs2.size, fun k hk h => hs2.block k hk (by omega)⟩
  have hf3 := hs2.fresh hf2 (by omega)
  have hq2 : (0 : Int) ≤ q + n + m := by omega
  go_wp2
  go_ret
  exact ⟨rfl, hs3, hf3.more ha1 hb1, hg3.more ha2 hb2⟩

set_option maxHeartbeats 800000 in
theorem heldCrew_any (A : Option Addr) (n c : Nat) (B : Option Addr) (m d : Nat) (s q : Int) (w : World) (hA : Holds w A (nums (marksI q n))) (hB : Holds w B (bits (marksB (q + n) m))) (h0 : 0 ≤ q) (h1 : q ≤ 2305843009213693952) (hn : n ≤ 1048576) (hm : m ≤ 1048576) :
    Calls Tryd.prog 39 #[.agg #[.slice A n c, .slice B m d, .int .i64 s], .int .i64 q] w fun e w' => e = .returned (.int .i64 (q + n + m)) ∧ Below w.heap.size w w' := by
  have hq0 : (0 : Int) ≤ q + n := by omega
  have hq1 : (0 : Int) ≤ q + n + m := by omega
  have hq2 : ¬ (q + (n : Int) < 0) := by omega
  have hq3 : ¬ (q + (n : Int) + (m : Int) < 0) := by omega
  go_enter Tryd.func39, Tryd.ntmps39
  go_wp2_with fail
  refine (heldIntS_any A n c q _ (hA.alloc _) h0 (by omega) hn).mono ?_
  rintro e w1 ⟨rfl, rfl⟩
  go_wp2_with fail
  refine (heldBoolS_any B m d (q + n) _ (hB.alloc _) hq0 (by omega) hm).mono ?_
  rintro e w1 ⟨rfl, rfl⟩
  go_wp2
  go_ret
  exact ⟨rfl, below1 w _⟩
end Go.Proofs.YtedkanncdkofaaaDoor

namespace Go.Proofs.YtedkanncdkofaaaDoor
open Go.RowKit

set_option maxHeartbeats 800000 in
set_option linter.unusedVariables false in
theorem lawCrewText_big0 (A0 : Option Addr) (n0 c0 : Nat) (x0 : List Int) (A1 : Option Addr) (n1 c1 : Nat) (x1 : List Bool) (k0 : Int) (w : World) (h0 : Holds w A0 (nums x0)) (hx0 : x0.length = n0) (hn0 : n0 ≤ 9223372036854775807) (h1 : Holds w A1 (bits x1)) (hx1 : x1.length = n1) (hn1 : n1 ≤ 9223372036854775807) (hT : Tab w)  (hbig : 1048576 - (n0 : Int) - (n1 : Int) < 0) :
    Calls Tryd.prog 7 #[.agg #[.slice A0 n0 c0, .slice A1 n1 c1, .int .i64 k0]] w fun e w' => e = .returned (.bool true) ∧ Below w.heap.size w w' := by
  have hb0 := (Whole.fresh w 50 #[.slice A0 n0 c0, .slice A1 n1 c1, .int .i64 k0])
  have ht := below1 w (.cells #[.slice A0 n0 c0, .slice A1 n1 c1, .int .i64 k0] 50)
  have HX0 := Lib.hid hx0
  have HX1 := Lib.hid hx1
  clear hx0 hx1
  obtain ⟨hb0_0, hb0_1, hb0_2⟩ := hb0.cells3
  have hb0_l := hb0.lt
  go_enter Tryd.func7, Tryd.ntmps7
  go_wp2_with fail
  refine (szCrew_any A0 n0 c0 A1 n1 c1 k0 (1048576) _ (by omega) (by omega) (by omega) (by omega)).mono ?_
  rintro e v1 ⟨rfl, hb⟩
  rw [crewLeft_bad (by omega)]
  have hz1 : w.heap.size + 1 ≤ v1.heap.size := by have := hb.size; simpa using this
  replace ht := below_then ht hb ht.size
  replace hb0 := hb0.below hb
  clear hb
  clear hb0_0 hb0_1 hb0_2 hb0_l
  go_wp2
  go_ret
  exact ⟨rfl, ht⟩

set_option maxHeartbeats 12800000 in
set_option maxRecDepth 100000 in
set_option linter.unusedSimpArgs false in
set_option linter.unusedVariables false in
theorem lawCrewText_small (A0 : Option Addr) (n0 c0 : Nat) (x0 : List Int) (A1 : Option Addr) (n1 c1 : Nat) (x1 : List Bool) (k0 : Int) (w : World) (h0 : Holds w A0 (nums x0)) (hx0 : x0.length = n0) (hn0 : n0 ≤ 9223372036854775807) (h1 : Holds w A1 (bits x1)) (hx1 : x1.length = n1) (hn1 : n1 ≤ 9223372036854775807) (hT : Tab w) (g0 : 0 ≤ 1048576 - (n0 : Int) - (n1 : Int)) :
    Calls Tryd.prog 7 #[.agg #[.slice A0 n0 c0, .slice A1 n1 c1, .int .i64 k0]] w fun e w' => e = .returned (.bool true) ∧ Below w.heap.size w w' := by
  have hb0 := (Whole.fresh w 50 #[.slice A0 n0 c0, .slice A1 n1 c1, .int .i64 k0])
  have ht := below1 w (.cells #[.slice A0 n0 c0, .slice A1 n1 c1, .int .i64 k0] 50)
  have HX0 := Lib.hid hx0
  have HX1 := Lib.hid hx1
  clear hx0 hx1
  obtain ⟨hb0_0, hb0_1, hb0_2⟩ := hb0.cells3
  have hb0_l := hb0.lt
  go_enter Tryd.func7, Tryd.ntmps7
  -- region 2
  go_wp2_with fail
  refine (szCrew_any A0 n0 c0 A1 n1 c1 k0 (1048576) _ (by omega) (by omega) (by omega) (by omega)).mono ?_
  rintro e v1 ⟨rfl, hb⟩
  rw [crewLeft_ok (by omega)]
  have hz1 : w.heap.size + 1 ≤ v1.heap.size := by have := hb.size; simpa using this
  replace ht := below_then ht hb ht.size
  replace hb0 := hb0.below hb
  clear hb
  clear hb0_0 hb0_1 hb0_2 hb0_l
  obtain ⟨hb0_0, hb0_1, hb0_2⟩ := hb0.cells3
  have hb0_l := hb0.lt
  -- region 5
  go_wp2_with fail
  refine (toCrew_own A0 n0 c0 x0 A1 n1 c1 x1 k0 _ (by exact h0.below ht) (by exact h1.below ht) HX0.out HX1.out (by omega) (by omega)).mono ?_
  rintro e v2 ⟨gp0, gp1, rfl, hgp0, hwp0, hgp1, hwp1, hb⟩
  have hz2 : v1.heap.size ≤ v2.heap.size := by have := hb.size; simpa using this
  replace ht := below_then ht hb ht.size
  replace hb0 := hb0.below hb
  have hgmp0 : v1.heap.size ≤ gp1 ∧ gp1 < v2.heap.size := ⟨by have := hgp0; (try simp at this); omega, hwp1.lt⟩
  have hp0 := Fresh.of_whole (lo := v1.heap.size) (hi := gp1) hwp0 (by simpa using hgp0) hgp1
  have hp1 := Fresh.of_whole (lo := gp1) (hi := v2.heap.size) hwp1 (Nat.le_refl _) hwp1.lt
  clear hgp0 hwp0 hgp1 hwp1
  clear hb
  clear hb0_0 hb0_1 hb0_2 hb0_l
  obtain ⟨hb0_0, hb0_1, hb0_2⟩ := hb0.cells3
  have hb0_l := hb0.lt
  go_wp2_with fail
  refine (specCrewText_any _ n0 _ _ n1 _ x0 x1 k0 _ (by exact hp0.holds) (by exact hp1.holds) HX0.out HX1.out (by omega) (by omega)).mono ?_
  rintro e v3 ⟨rfl, hb⟩
  have hz3 : v2.heap.size ≤ v3.heap.size := by have := hb.size; simpa using this
  replace ht := below_then ht hb ht.size
  replace hb0 := hb0.below hb
  replace hp0 := hp0.below hb
  replace hp1 := hp1.below hb
  clear hb
  clear hp0 hp1
  clear hb0_0 hb0_1 hb0_2 hb0_l
  obtain ⟨hb0_0, hb0_1, hb0_2⟩ := hb0.cells3
  have hb0_l := hb0.lt
  -- region 6
  go_wp2_with fail
  refine (toCrew_own A0 n0 c0 x0 A1 n1 c1 x1 k0 _ (by exact h0.below ht) (by exact h1.below ht) HX0.out HX1.out (by omega) (by omega)).mono ?_
  rintro e v4 ⟨gx0, gx1, rfl, hgx0, hwx0, hgx1, hwx1, hb⟩
  have hz4 : v3.heap.size ≤ v4.heap.size := by have := hb.size; simpa using this
  replace ht := below_then ht hb ht.size
  replace hb0 := hb0.below hb
  have hgmx0 : v3.heap.size ≤ gx1 ∧ gx1 < v4.heap.size := ⟨by have := hgx0; (try simp at this); omega, hwx1.lt⟩
  have hx0 := Fresh.of_whole (lo := v3.heap.size) (hi := gx1) hwx0 (by simpa using hgx0) hgx1
  have hx1 := Fresh.of_whole (lo := gx1) (hi := v4.heap.size) hwx1 (Nat.le_refl _) hwx1.lt
  clear hgx0 hwx0 hgx1 hwx1
  clear hb
  have hx90 := Whole.fresh v4 53 #[.slice (some ⟨gx0, 0, none⟩) n0 n0, .slice (some ⟨gx1, 0, none⟩) n1 n1, .int .i64 k0]
  replace ht := ht.alloc ht.size (.cells #[.slice (some ⟨gx0, 0, none⟩) n0 n0, .slice (some ⟨gx1, 0, none⟩) n1 n1, .int .i64 k0] 53)
  replace hb0 := hb0.alloc (.cells #[.slice (some ⟨gx0, 0, none⟩) n0 n0, .slice (some ⟨gx1, 0, none⟩) n1 n1, .int .i64 k0] 53)
  replace hx0 := hx0.alloc (.cells #[.slice (some ⟨gx0, 0, none⟩) n0 n0, .slice (some ⟨gx1, 0, none⟩) n1 n1, .int .i64 k0] 53)
  replace hx1 := hx1.alloc (.cells #[.slice (some ⟨gx0, 0, none⟩) n0 n0, .slice (some ⟨gx1, 0, none⟩) n1 n1, .int .i64 k0] 53)
  clear hb0_0 hb0_1 hb0_2 hb0_l
  obtain ⟨hb0_0, hb0_1, hb0_2⟩ := hb0.cells3
  have hb0_l := hb0.lt
  obtain ⟨hx90_0, hx90_1, hx90_2⟩ := hx90.cells3
  have hx90_l := hx90.lt
  -- region 7
  go_wp2_with fail
  refine (implCrewText_any _ n0 _ _ n1 _ x0 x1 k0 _ (by exact hx0.holds) (by exact hx1.holds) HX0.out HX1.out (by omega) (by omega) (hT.below ht)).mono ?_
  rintro e v5 ⟨rfl, hb⟩
  have hz5 : v4.heap.size + 1 ≤ v5.heap.size := by have := hb.size; simpa using this
  replace ht := below_then ht hb ht.size
  replace hb0 := hb0.below hb
  replace hx0 := hx0.below hb
  replace hx1 := hx1.below hb
  replace hx90 := hx90.below hb
  clear hb
  clear hb0_0 hb0_1 hb0_2 hb0_l hx90_0 hx90_1 hx90_2 hx90_l
  obtain ⟨hb0_0, hb0_1, hb0_2⟩ := hb0.cells3
  have hb0_l := hb0.lt
  obtain ⟨hx90_0, hx90_1, hx90_2⟩ := hx90.cells3
  have hx90_l := hx90.lt
  -- region 10
  clear hb0_0 hb0_1 hb0_2 hb0_l hx90_0 hx90_1 hx90_2 hx90_l
  go_wp2_with fail
  refine wp_region_held_drew (S := (fun w' => w'.cell? ⟨w.heap.size, 0, none⟩ = some (.slice A0 n0 c0) ∧ w'.cell? ⟨w.heap.size, 1, none⟩ = some (.slice A1 n1 c1) ∧ w'.cell? ⟨w.heap.size, 2, none⟩ = some (.int .i64 k0) ∧ w'.cell? ⟨v4.heap.size, 0, none⟩ = some (.slice (some ⟨gx0, 0, none⟩) n0 n0) ∧ w'.cell? ⟨v4.heap.size, 1, none⟩ = some (.slice (some ⟨gx1, 0, none⟩) n1 n1) ∧ w'.cell? ⟨v4.heap.size, 2, none⟩ = some (.int .i64 k0))) (by kernel_rfl) ⟨hb0.drew.cell 0, hb0.drew.cell 1, hb0.drew.cell 2, hx90.drew.cell 0, hx90.drew.cell 1, hx90.drew.cell 2⟩ (fun hHeld => ?_)
  replace ht := ht.drew
  replace hb0 := hb0.drew
  replace hx0 := hx0.drew
  replace hx1 := hx1.drew
  replace hx90 := hx90.drew
  refine wpAnyH_take (i := 0) (v := ?_) rfl (by kernel_rfl) (by kernel_rfl) (by kernel_rfl) (fun _ _ _ h => h) (Or.inl ⟨rfl, ?_⟩) hHeld ?_
  rotate_left
  · intro w' hS; obtain ⟨s0, s1, s2, s3, s4, s5⟩ := hS; go_simp <;> with_reducible rfl
  simp only [Act.put, List.getElem_toArray, List.getElem_cons_succ, List.getElem_cons_zero, List.setIfInBounds_toArray, List.set_cons_succ, List.set_cons_zero]
  refine wpAnyH_take (i := 1) (v := ?_) rfl (by kernel_rfl) (by kernel_rfl) (by kernel_rfl) (fun _ _ _ h => h) (Or.inl ⟨rfl, ?_⟩) hHeld ?_
  rotate_left
  · intro w' hS; obtain ⟨s0, s1, s2, s3, s4, s5⟩ := hS; go_simp <;> with_reducible rfl
  simp only [Act.put, List.getElem_toArray, List.getElem_cons_succ, List.getElem_cons_zero, List.setIfInBounds_toArray, List.set_cons_succ, List.set_cons_zero]
  refine wpAnyH_ready (rs := [2]) (by kernel_rfl) (by simp) (AllReadyH.cons rfl (fun K hK => ?_) AllReadyH.nil)
  go_simp
  refine (toCrew_own A0 n0 c0 x0 A1 n1 c1 x1 k0 _ (by exact h0.below ht) (by exact h1.below ht) HX0.out HX1.out (by omega) (by omega)).mono ?_
  rintro e v6 ⟨gy0, gy1, rfl, hgy0, hwy0, hgy1, hwy1, hb⟩
  have hz6 : v5.heap.size ≤ v6.heap.size := by have := hb.size; simpa using this
  replace ht := below_then ht hb ht.size
  replace hb0 := hb0.below hb
  replace hx0 := hx0.below hb
  replace hx1 := hx1.below hb
  replace hx90 := hx90.below hb
  have hgmy0 : v5.heap.size ≤ gy1 ∧ gy1 < v6.heap.size := ⟨by have := hgy0; (try simp at this); omega, hwy1.lt⟩
  have hy0 := Fresh.of_whole (lo := v5.heap.size) (hi := gy1) hwy0 (by simpa using hgy0) hgy1
  have hy1 := Fresh.of_whole (lo := gy1) (hi := v6.heap.size) hwy1 (Nat.le_refl _) hwy1.lt
  clear hgy0 hwy0 hgy1 hwy1
  clear hb
  refine hK.out _ _ ⟨hb0.cell 0, hb0.cell 1, hb0.cell 2, hx90.cell 0, hx90.cell 1, hx90.cell 2⟩ (fun hHeld => ?_)
  clear hK K
  try simp only [Act.put, List.getElem_toArray, List.getElem_cons_succ, List.getElem_cons_zero, List.setIfInBounds_toArray, List.set_cons_succ, List.set_cons_zero]
  refine wpAnyH_ready (rs := [3]) (by kernel_rfl) (by simp) (AllReadyH.cons rfl (fun K hK => ?_) AllReadyH.nil)
  go_simp
  refine (eqCrew_yes _ _ n0 _ _ x0 _ _ n1 _ _ x1 k0 _ (by exact hx0.holds) (by exact hy0.holds) (by exact hx1.holds) (by exact hy1.holds) HX0.out HX1.out (by omega) (by omega)).mono ?_
  rintro e v7 ⟨rfl, hb⟩
  have hz7 : v6.heap.size ≤ v7.heap.size := by have := hb.size; simpa using this
  replace ht := below_then ht hb ht.size
  replace hb0 := hb0.below hb
  replace hx0 := hx0.below hb
  replace hx1 := hx1.below hb
  replace hx90 := hx90.below hb
  replace hy0 := hy0.below hb
  replace hy1 := hy1.below hb
  clear hb
  clear hy0 hy1
  refine hK.out _ _ ⟨hb0.cell 0, hb0.cell 1, hb0.cell 2, hx90.cell 0, hx90.cell 1, hx90.cell 2⟩ (fun hHeld => ?_)
  clear hK K
  try simp only [Act.put, List.getElem_toArray, List.getElem_cons_succ, List.getElem_cons_zero, List.setIfInBounds_toArray, List.set_cons_succ, List.set_cons_zero]
  refine wpAnyH_take (i := 4) (v := ?_) rfl (by kernel_rfl) (by kernel_rfl) (by kernel_rfl) (fun _ _ _ h => h) (Or.inl ⟨rfl, ?_⟩) hHeld ?_
  rotate_left
  · intro w' hS; obtain ⟨s0, s1, s2, s3, s4, s5⟩ := hS; go_simp <;> with_reducible rfl
  simp only [Act.put, List.getElem_toArray, List.getElem_cons_succ, List.getElem_cons_zero, List.setIfInBounds_toArray, List.set_cons_succ, List.set_cons_zero]
  refine wpAnyH_done (by kernel_rfl) ?_ _
  clear hHeld
  obtain ⟨hb0_0, hb0_1, hb0_2⟩ := hb0.cells3
  have hb0_l := hb0.lt
  obtain ⟨hx90_0, hx90_1, hx90_2⟩ := hx90.cells3
  have hx90_l := hx90.lt
  go_wp2
  go_ret
  exact ⟨rfl, ht⟩

theorem lawCrewText_all (A0 : Option Addr) (n0 c0 : Nat) (x0 : List Int) (A1 : Option Addr) (n1 c1 : Nat) (x1 : List Bool) (k0 : Int) (w : World) (h0 : Holds w A0 (nums x0)) (hx0 : x0.length = n0) (hn0 : n0 ≤ 9223372036854775807) (h1 : Holds w A1 (bits x1)) (hx1 : x1.length = n1) (hn1 : n1 ≤ 9223372036854775807) (hT : Tab w) :
    Calls Tryd.prog 7 #[.agg #[.slice A0 n0 c0, .slice A1 n1 c1, .int .i64 k0]] w fun e w' => e = .returned (.bool true) ∧ Below w.heap.size w w' := by
  rcases (inferInstance : Decidable (0 ≤ 1048576 - (n0 : Int) - (n1 : Int))) with g0 | g0
  · exact lawCrewText_big0 A0 n0 c0 x0 A1 n1 c1 x1 k0 w h0 hx0 hn0 h1 hx1 hn1 hT  (by omega)
  exact lawCrewText_small A0 n0 c0 x0 A1 n1 c1 x1 k0 w h0 hx0 hn0 h1 hx1 hn1 hT g0
end Go.Proofs.YtedkanncdkofaaaDoor
