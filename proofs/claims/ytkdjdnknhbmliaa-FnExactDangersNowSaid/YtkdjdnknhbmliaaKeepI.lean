/-
  What is proved: contracts of the program's test of a keep (IsKeep), of isDanger and of slices.Compare on lists of two. Conditions: the lists are read as they lie.
-/
import Derived.Test.YtkdjdnknhbmliaaKeepG
import Derived.Lib.Small
namespace Go.Proofs.Ytkdjdnknhbmliaa
open Go.RowKit

set_option maxHeartbeats 400000 in
theorem isNaNk_any (x : Int) (w : World) : Calls Try.prog 138 #[.int .i64 x] w fun e w' => e = .returned (.bool false) ∧ w = w' := by
  go_enter Try.func138, Try.ntmps138
  go_wp2
  go_ret
  exact ⟨by simp, rfl⟩
set_option maxHeartbeats 800000 in
theorem comparek_any (x y : Int) (w : World) : Calls Try.prog 125 #[.int .i64 x, .int .i64 y] w fun e w' => e = .returned (.int .i64 (Go.Lib.compareInt x y)) ∧ w = w' := by
  by_cases h : x < y
  · have HC : Hid (Go.Lib.compareInt x y = -1) := if_pos h
    go_enter Try.func125, Try.ntmps125
    go_wp2_with (go_at_call 138; refine (isNaNk_any _ _).mono ?_; rintro e w' ⟨rfl, rfl⟩)
    go_ret
    exact ⟨ret_of (by rw [HC.out]; rfl), rfl⟩
  · by_cases h2 : y < x
    · have HC : Hid (Go.Lib.compareInt x y = 1) := by show _ = _; rw [Go.Lib.compareInt, if_neg h, if_pos h2]
      go_enter Try.func125, Try.ntmps125
      go_wp2_with (go_at_call 138; refine (isNaNk_any _ _).mono ?_; rintro e w' ⟨rfl, rfl⟩)
      go_ret
      exact ⟨ret_of (by rw [HC.out]; rfl), rfl⟩
    · have HC : Hid (Go.Lib.compareInt x y = 0) := by show _ = _; rw [Go.Lib.compareInt, if_neg h, if_neg h2]
      go_enter Try.func125, Try.ntmps125
      go_wp2_with (go_at_call 138; refine (isNaNk_any _ _).mono ?_; rintro e w' ⟨rfl, rfl⟩)
      go_ret
      exact ⟨ret_of (by rw [HC.out]; rfl), rfl⟩

/-- Is a list a danger? -/
noncomputable def dgB (k : Int) (d : List Int) : Bool := by
  classical
  exact decide (IsDg k d)
theorem dgB_yes {k : Int} {d : List Int} (h : IsDg k d) : dgB k d = true := by classical simpa [dgB] using h
theorem dgB_no {k : Int} {d : List Int} (h : ¬ IsDg k d) : dgB k d = false := by classical simpa [dgB] using h

set_option maxHeartbeats 1600000 in
theorem isDanger_any (A : Option Addr) (n c : Nat) (d : List Int) (k : Int) (w : World) (hA : Holds w A (nums d)) (hx : d.length = n) (hn : n ≤ 9223372036854775807) :
    Calls Try.prog 85 #[.slice A n c, .int .i64 k] w fun e w' => e = .returned (.bool (dgB k d)) ∧ ∃ j, w' = w.drewN j := by
  by_cases h2 : n = 2
  · subst h2
    obtain ⟨b, o, rfl, hb, a0, a1⟩ := two_at hA hx
    have HY : Hid (IsDg k d ↔ (0 ≤ d.getD 0 0 ∧ d.getD 0 0 < d.getD 1 0 ∧ d.getD 1 0 < k)) := ⟨fun h => h.2, fun h => ⟨hx, h⟩⟩
    obtain ⟨q, hq⟩ : ∃ q : Bool, q = dgB k d := ⟨_, rfl⟩
    have HYES : Hid (IsDg k d → q = true) := fun h => by rw [hq]; exact dgB_yes h
    have HNO : Hid (¬ IsDg k d → q = false) := fun h => by rw [hq]; exact dgB_no h
    rw [← hq]
    clear hq hA hx
    generalize d.getD 0 0 = x0 at *
    generalize d.getD 1 0 = x1 at *
    have hl : (((2 : Nat) : Int) == 2) = true := rfl
    by_cases h0 : 0 ≤ x0
    · by_cases h1 : x0 < x1
      · by_cases h3 : x1 < k
        · have HQ : Hid (q = true) := HYES.out (HY.out.2 (by omega))
          have d0 : decide (0 ≤ x0) = true := by simp [h0]
          have d1 : decide (x0 < x1) = true := by simp [h1]
          have d3 : decide (x1 < k) = true := by simp [h3]
          clear HYES HNO HY
          go_enter Try.func85, Try.ntmps85
          go_wp2
          go_quiet (fail)
          go_wp2
          go_ret
          exact ⟨ret_of (by rw [HQ.out]; first | rfl | simp), _, rfl⟩
        · have HQ : Hid (q = false) := HNO.out (fun h => by have := HY.out.1 h; omega)
          have d0 : decide (0 ≤ x0) = true := by simp [h0]
          have d1 : decide (x0 < x1) = true := by simp [h1]
          have d3 : decide (x1 < k) = false := by simp; omega
          clear HYES HNO HY
          go_enter Try.func85, Try.ntmps85
          go_wp2
          go_quiet (fail)
          go_wp2
          go_ret
          exact ⟨ret_of (by rw [HQ.out]; first | rfl | simp), _, rfl⟩
      · have HQ : Hid (q = false) := HNO.out (fun h => by have := HY.out.1 h; omega)
        have d0 : decide (0 ≤ x0) = true := by simp [h0]
        have d1 : decide (x0 < x1) = false := by simp; omega
        clear HYES HNO HY
        go_enter Try.func85, Try.ntmps85
        go_wp2
        go_quiet (fail)
        go_wp2
        go_ret
        exact ⟨ret_of (by rw [HQ.out]; first | rfl | simp), _, rfl⟩
    · have HQ : Hid (q = false) := HNO.out (fun h => by have := HY.out.1 h; omega)
      have d0 : decide (0 ≤ x0) = false := by simp; omega
      clear HYES HNO HY
      go_enter Try.func85, Try.ntmps85
      go_wp2
      go_quiet (fail)
      go_wp2
      go_ret
      exact ⟨ret_of (by rw [HQ.out]; first | rfl | simp), _, rfl⟩
  · have HQ : Hid (dgB k d = false) := dgB_no fun h => h2 (by rw [← hx]; exact h.1)
    have hl : ((n : Int) == 2) = false := by simp; omega
    clear hA hx h2
    go_enter Try.func85, Try.ntmps85
    go_wp2
    go_quiet (fail)
    go_wp2
    go_ret
    exact ⟨ret_of (by rw [HQ.out]; first | rfl | simp), _, rfl⟩

instance befDec (a b : List Int) : Decidable (BefD a b) := by unfold BefD; infer_instance
/-- What slices.Compare tells of a list and a danger. -/
noncomputable def cmpD (a b : List Int) : Int := if a = [] then -1 else if BefD a b then -1 else if BefD b a then 1 else 0
theorem cmpD_neg {a b : List Int} (h : a = [] ∨ BefD a b) : cmpD a b = -1 := by
  unfold cmpD
  rcases h with h | h
  · rw [if_pos h]
  · by_cases ha : a = []
    · rw [if_pos ha]
    · rw [if_neg ha, if_pos h]
theorem cmpD_pos {a b : List Int} (h : a ≠ []) (h1 : ¬ BefD a b) : 0 ≤ cmpD a b := by
  unfold cmpD
  rw [if_neg h, if_neg h1]
  split <;> omega
theorem cmpD_0 {a b : List Int} (h : a ≠ []) (h1 : a.getD 0 0 ≠ b.getD 0 0) : cmpD a b = Go.Lib.compareInt (a.getD 0 0) (b.getD 0 0) := by
  unfold cmpD Go.Lib.compareInt BefD
  rw [if_neg h]
  repeat' split
  all_goals omega
theorem cmpD_1 {a b : List Int} (h : a ≠ []) (h1 : a.getD 0 0 = b.getD 0 0) : cmpD a b = Go.Lib.compareInt (a.getD 1 0) (b.getD 1 0) := by
  unfold cmpD Go.Lib.compareInt BefD
  rw [if_neg h]
  repeat' split
  all_goals omega

set_option maxHeartbeats 3200000 in
theorem compareD_any (A B : Option Addr) (n c m d : Nat) (x y : List Int) (w : World) (hA : Holds w A (nums x)) (hB : Holds w B (nums y)) (hx : x.length = n) (hn : x = [] ∨ x.length = 2) (hy : y.length = 2) (hm : m = 2) :
    Calls Try.prog 86 #[.slice A n c, .slice B m d] w fun e w' => e = .returned (.int .i64 (cmpD x y)) ∧ w = w' := by
  subst hm
  obtain ⟨b', o', rfl, hb', c0, c1⟩ := two_at hB hy
  rcases hn with rfl | hl
  · obtain rfl : n = 0 := by simpa using hx.symm
    have HQ : Hid (cmpD [] y = -1) := cmpD_neg (.inl rfl)
    clear hA hB hx hy
    go_enter Try.func86, Try.ntmps86
    go_wp2
    go_loop [11] (fun i => i = .int .i64 0) (fun _ => 0)
    case atStart => rfl
    case round =>
      subst hrel
      go_wp2
      go_ret
      exact ⟨ret_of (by rw [HQ.out]; rfl), rfl⟩
  · obtain rfl : n = 2 := by omega
    have hne : x ≠ [] := by intro h; rw [h] at hl; cases hl
    obtain ⟨b, o, rfl, hb, a0, a1⟩ := two_at hA hl
    have H0 : Hid (x.getD 0 0 ≠ y.getD 0 0 → cmpD x y = Go.Lib.compareInt (x.getD 0 0) (y.getD 0 0)) := cmpD_0 hne
    have H1 : Hid (x.getD 0 0 = y.getD 0 0 → cmpD x y = Go.Lib.compareInt (x.getD 1 0) (y.getD 1 0)) := cmpD_1 hne
    clear hA hB hx hy hl hne
    generalize cmpD x y = q at *
    generalize x.getD 0 0 = x0 at *
    generalize y.getD 0 0 = y0 at *
    generalize x.getD 1 0 = x1 at *
    generalize y.getD 1 0 = y1 at *
    go_enter Try.func86, Try.ntmps86
    go_wp2
    go_loop [11] (fun i => ∃ j : Nat, j ≤ 2 ∧ i = .int .i64 j ∧ (0 < j → x0 = y0) ∧ (1 < j → x1 = y1)) (fun i => 2 - (intOf i).toNat)
    case atStart => exact ⟨0, by omega, rfl, fun h => by omega, fun h => by omega⟩
    case round =>
      obtain ⟨j, hj, rfl, e0, e1⟩ := hrel
      have hjc : j = 0 ∨ j = 1 ∨ j = 2 := by omega
      rcases hjc with rfl | rfl | rfl
      · clear e0 e1
        by_cases he : x0 = y0
        · have HC : Hid (Go.Lib.compareInt x0 y0 = 0) := by show _ = _; unfold Go.Lib.compareInt; rw [if_neg (by omega), if_neg (by omega)]
          have HE := Lib.hid he
          clear he
          go_wp2_with (go_at_call 125; refine (comparek_any _ _ _).mono ?_; rintro e w' ⟨rfl, rfl⟩; rw [HC.out])
          go_round
          case rel => exact ⟨1, by omega, rfl, fun _ => HE.out, fun h => by omega⟩
          case measure => simp [intOf]
        · have HC : Hid ((Go.Lib.compareInt x0 y0 != 0) = true) := by show _ = _; unfold Go.Lib.compareInt; by_cases h1 : x0 < y0 <;> by_cases h2 : y0 < x0 <;> simp [h1, h2]; omega
          have HQ : Hid (q = Go.Lib.compareInt x0 y0) := H0.out he
          clear he
          have hc := HC.out
          go_wp2_with (go_at_call 125; refine (comparek_any _ _ _).mono ?_; rintro e w' ⟨rfl, rfl⟩)
          go_ret
          exact ⟨ret_of (by rw [HQ.out]; rfl), rfl⟩
      · have HE := Lib.hid (e0 (by omega))
        clear e0 e1
        by_cases he : x1 = y1
        · have HC : Hid (Go.Lib.compareInt x1 y1 = 0) := by show _ = _; unfold Go.Lib.compareInt; rw [if_neg (by omega), if_neg (by omega)]
          have HE1 := Lib.hid he
          clear he
          go_wp2_with (go_at_call 125; refine (comparek_any _ _ _).mono ?_; rintro e w' ⟨rfl, rfl⟩; rw [HC.out])
          go_round
          case rel => exact ⟨2, by omega, rfl, fun _ => HE.out, fun _ => HE1.out⟩
          case measure => simp [intOf]
        · have HC : Hid ((Go.Lib.compareInt x1 y1 != 0) = true) := by show _ = _; unfold Go.Lib.compareInt; by_cases h1 : x1 < y1 <;> by_cases h2 : y1 < x1 <;> simp [h1, h2]; omega
          have HQ : Hid (q = Go.Lib.compareInt x1 y1) := H1.out HE.out
          clear he
          have hc := HC.out
          go_wp2_with (go_at_call 125; refine (comparek_any _ _ _).mono ?_; rintro e w' ⟨rfl, rfl⟩)
          go_ret
          exact ⟨ret_of (by rw [HQ.out]; rfl), rfl⟩
      · have HQ : Hid (q = 0) := by
          show _ = _
          rw [H1.out (e0 (by omega)), e1 (by omega)]
          unfold Go.Lib.compareInt
          rw [if_neg (by omega), if_neg (by omega)]
        clear e0 e1
        go_wp2
        go_ret
        exact ⟨ret_of (by rw [HQ.out]; rfl), rfl⟩

set_option maxHeartbeats 3200000 in
set_option maxRecDepth 100000 in
theorem isKeep_any (k s : Int) (A : Option Addr) (n c : Nat) (rs : List RowV) (w : World) (hA : Grid w A rs) (hx : rs.length = n) (hn : n ≤ 1048576) :
    Calls Try.prog 37 #[.agg #[.int .i64 k, .slice A n c, .int .i64 s]] w fun e w' => e = .returned (.bool (keepOk k s (rowNums rs))) ∧ Below w.heap.size w w' := by
  subst hx
  have HLS := Lib.hid (rowNums_len rs)
  have h0 := Lib.hid (Whole.fresh w 54 #[.int .i64 k, .slice A rs.length c, .int .i64 s])
  have hb1 := Lib.hid (below1 w (.cells #[.int .i64 k, .slice A rs.length c, .int .i64 s] 54))
  have HG := Lib.hid hA
  obtain ⟨f0, f1, f2⟩ := h0.out.cells3
  obtain ⟨q, hq⟩ : ∃ q : Bool, q = keepOk k s (rowNums rs) := ⟨_, rfl⟩
  rw [← hq]
  have HQ := Lib.hid hq
  clear hq hA
  by_cases hok : 0 ≤ k ∧ k ≤ 8 ∧ 0 ≤ s ∧ s ≤ 8
  rotate_left
  · have HQ2 : Hid (q = false) := by
      show _ = _
      rw [HQ.out]
      exact keepOk_out hok
    clear HQ
    obtain ⟨g5, g6⟩ | ⟨g5, g6⟩ | ⟨g5, g6⟩ : (k ≤ s ∧ k < s) ∨ (k ≤ s ∧ ¬ k < s) ∨ (¬ k ≤ s ∧ ¬ k < s) := by omega
    all_goals (by_cases g1 : k < 0 <;> by_cases g2 : s < 0 <;> by_cases g3 : 8 < k <;> by_cases g4 : 8 < s)
    all_goals first
      | (exfalso; omega)
      | (clear hok; go_enter Try.func37, Try.ntmps37; go_wp2; go_ret; exact ⟨ret_of (by rw [HQ2.out]; rfl), hb1.out⟩)
  · have HKS := Lib.hid hok
    have g1 : ¬ k < 0 := by omega
    have g2 : ¬ s < 0 := by omega
    have g3 : ¬ 8 < k := by omega
    have g4 : ¬ 8 < s := by omega
    have HK8 : Hid (k ≤ 8) := hok.2.1
    clear hok
    obtain ⟨g5, g6⟩ | ⟨g5, g6⟩ | ⟨g5, g6⟩ : (k ≤ s ∧ k < s) ∨ (k ≤ s ∧ ¬ k < s) ∨ (¬ k ≤ s ∧ ¬ k < s) := by omega
    all_goals
      go_enter Try.func37, Try.ntmps37
      go_wp2
      clear g1 g2 g3 g4 g5 g6
      go_loopw [3, 23] (fun v i wr => ∃ j : Nat, j ≤ rs.length ∧ i = .int .i64 j ∧ (∃ (P : Option Addr) (pn pc : Nat) (pxs : List Int), v = .slice P pn pc ∧ Holds w P (nums pxs) ∧ pxs.length = pn ∧ ((j = 0 ∧ pxs = []) ∨ (0 < j ∧ pxs = (rowNums rs).getD (j - 1) []))) ∧ DgTo k (rowNums rs) j ∧ Whole wr w.heap.size 54 #[.int .i64 k, .slice A rs.length c, .int .i64 s] ∧ Below w.heap.size w wr) (fun _ i _ => rs.length - (intOf i).toNat)
      case atStart => exact ⟨0, Nat.zero_le _, rfl, ⟨none, 0, 0, [], rfl, .inl rfl, rfl, .inl ⟨rfl, rfl⟩⟩, DgTo.start _ _, h0.out, hb1.out⟩
      case round =>
        clear f0 f1 f2 h0 hb1
        obtain ⟨j, hj, rfl, ⟨P, pn, pc, pxs, rfl, hP, hpl, hpx⟩, hdt, h0, hb⟩ := hrel
        by_cases hlt : j < rs.length
        · obtain ⟨b, o, rfl, hbl, hcell, hrow, hrl, hrn⟩ := grid_row HG.out hlt
          replace hcell := (hb.cell (p := ⟨b, o + j, none⟩) hbl).trans hcell
          have HAT := Lib.hid (rows_at rs hlt)
          obtain ⟨f0, f1, f2⟩ := h0.cells3
          obtain ⟨R, hR⟩ : ∃ R, R = rs[j] := ⟨_, rfl⟩
          rw [← hR] at hcell hrow hrl hrn HAT
          have HD := Lib.hid hdt
          have H0 := Lib.hid h0
          have HB := Lib.hid hb
          have HJ : Hid (j < (rowNums rs).length) := by show _ < _; rw [HLS.out]; exact hlt
          obtain ⟨rA, rn, rc, rxs⟩ := R
          replace hcell : World.cell? wr ⟨b, o + j, none⟩ = some (.slice rA rn rc) := hcell
          replace hrn : rn ≤ 9223372036854775807 := hrn
          have HRL2 : Hid (rxs.length = rn) := hrl
          have HRW0 : Hid (Holds w rA (nums rxs)) := hrow
          have HRW2 : Hid (Holds wr rA (nums rxs)) := HRW0.out.below hb
          have HAT2 : Hid ((rowNums rs).getD j [] = rxs) := HAT.out
          have HP : Hid (Holds wr P (nums pxs)) := hP.below hb
          have HPL := Lib.hid hpl
          have HPX := Lib.hid hpx
          clear HAT hrow hrl hR hdt h0 hb hP hpl hpx
          cases hr : dgB k rxs
          · have HN : Hid (q = false) := by
              show _ = _
              rw [HQ.out]
              refine keepOk_no HJ.out fun h => ?_
              have h1 := h.1
              rw [HAT2.out] at h1
              rw [dgB_yes h1] at hr
              cases hr
            have HR := Lib.hid hr
            clear hr HQ
            go_wp2_with (go_at_call 85; refine (isDanger_any _ _ _ rxs k _ HRW2.out HRL2.out hrn).mono ?_; rintro e w' ⟨rfl, jj, rfl⟩; rw [HR.out])
            go_ret
            exact ⟨ret_of (by rw [HN.out]; rfl), below_draws HB.out jj⟩
          · have HDG : Hid (IsDg k rxs) := Classical.byContradiction fun h => by rw [dgB_no h] at hr; cases hr
            have HR := Lib.hid hr
            obtain rfl : rn = 2 := by have := HDG.out.1; have := HRL2.out; omega
            have HP2 : Hid (pxs = [] ∨ pxs.length = 2) := by
              rcases HPX.out with ⟨-, h⟩ | ⟨h1, h2⟩
              · exact .inl h
              · exact .inr (by rw [h2]; exact (HD.out (j - 1) (by omega)).1.1)
            clear hr
            by_cases hbf : pxs = [] ∨ BefD pxs rxs
            · have HST : Hid (DgTo k (rowNums rs) (j + 1)) := HD.out.next ⟨by rw [HAT2.out]; exact HDG.out, by
                rcases HPX.out with ⟨h, -⟩ | ⟨h1, h2⟩
                · exact .inl h
                · rw [HAT2.out, ← h2]
                  rcases hbf with h | h
                  · have h3 := (HD.out (j - 1) (by omega)).1.1
                    rw [← h2, h] at h3
                    cases h3
                  · exact .inr h⟩
              have HF := Lib.hid (cmpD_neg hbf)
              clear hbf
              go_wp2_with (first | (go_at_call 85; refine (isDanger_any _ _ _ rxs k _ HRW2.out HRL2.out hrn).mono ?_; rintro e w' ⟨rfl, jj, rfl⟩; rw [HR.out]) | (go_at_call 86; refine (compareD_any _ _ _ _ _ _ pxs rxs _ (by exact HP.out.below (below_draws (Below.refl _ _) jj)) (by exact HRW2.out.below (below_draws (Below.refl _ _) jj)) HPL.out HP2.out HRL2.out rfl).mono ?_; rintro e w' ⟨rfl, rfl⟩; rw [HF.out]))
              go_roundw
              case rel => exact ⟨j + 1, by omega, by go_num, ⟨rA, 2, rc, rxs, rfl, HRW0.out, HRL2.out, .inr ⟨by omega, by rw [show j + 1 - 1 = j by omega]; exact HAT2.out.symm⟩⟩, HST.out, H0.out.below (below_draws (Below.refl _ _) jj), below_draws HB.out jj⟩
              case measure => simp [intOf]; omega
            · have hbf1 : pxs ≠ [] := fun h => hbf (.inl h)
              have hbf2 : ¬ BefD pxs rxs := fun h => hbf (.inr h)
              have HN : Hid (q = false) := by
                show _ = _
                rw [HQ.out]
                refine keepOk_no HJ.out fun h => ?_
                rcases HPX.out with ⟨-, h1⟩ | ⟨h1, h2⟩
                · exact hbf1 h1
                · rcases h.2 with h3 | h3
                  · omega
                  · rw [HAT2.out, ← h2] at h3
                    exact hbf2 h3
              obtain ⟨r, hr⟩ : ∃ r, r = cmpD pxs rxs := ⟨_, rfl⟩
              have hr0 : 0 ≤ r := by rw [hr]; exact cmpD_pos hbf1 hbf2
              have HF : Hid (cmpD pxs rxs = r) := hr.symm
              have hdr : decide (0 ≤ r) = true := by simp only [decide_eq_true_eq]; exact hr0
              clear hbf hbf1 hbf2 hr HQ
              go_wp2_with (first | (go_at_call 85; refine (isDanger_any _ _ _ rxs k _ HRW2.out HRL2.out hrn).mono ?_; rintro e w' ⟨rfl, jj, rfl⟩; rw [HR.out]) | (go_at_call 86; refine (compareD_any _ _ _ _ _ _ pxs rxs _ (by exact HP.out.below (below_draws (Below.refl _ _) jj)) (by exact HRW2.out.below (below_draws (Below.refl _ _) jj)) HPL.out HP2.out HRL2.out rfl).mono ?_; rintro e w' ⟨rfl, rfl⟩; rw [HF.out]))
              go_ret
              exact ⟨ret_of (by rw [HN.out]; rfl), below_draws HB.out jj⟩
        · have HN : Hid (q = true) := by
            show _ = _
            rw [HQ.out]
            exact keepOk_yes HKS.out hdt (by rw [HLS.out]; omega)
          clear HQ
          go_wp2
          go_ret
          exact ⟨ret_of (by rw [HN.out]; rfl), hb⟩

theorem specIsKeep_on (k s : Int) (A : Option Addr) (n c : Nat) (rs : List RowV) (ls : List (List Int)) (w : World) (hA : Grid w A rs) (he : rowNums rs = ls) (hx : rs.length = n) (hn : n ≤ 1048576) :
    Calls Try.prog 35 #[.agg #[.int .i64 k, .slice A n c, .int .i64 s]] w fun e w' => e = .returned (.bool (keepOk k s ls)) ∧ Below w.heap.size w w' :=
  he ▸ specIsKeep_any k s A n c rs w hA hx hn
theorem implIsKeep_on (k s : Int) (A : Option Addr) (n c : Nat) (rs : List RowV) (ls : List (List Int)) (w : World) (hA : Grid w A rs) (he : rowNums rs = ls) (hx : rs.length = n) (hn : n ≤ 1048576) :
    Calls Try.prog 37 #[.agg #[.int .i64 k, .slice A n c, .int .i64 s]] w fun e w' => e = .returned (.bool (keepOk k s ls)) ∧ Below w.heap.size w w' :=
  he ▸ isKeep_any k s A n c rs w hA hx hn
end Go.Proofs.Ytkdjdnknhbmliaa
