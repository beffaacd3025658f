/-
  What is proved: contracts of the model's test of a keep (keGood) and of keBefore. Conditions: the lists are read as they lie.
-/
import Derived.Test.YtkdjdnknhbmliaaKeepP
import Derived.Test.YtkdjdnknhbmliaaGrid2
import Derived.Test.YtkdjdnknhbmliaaCells
namespace Go.Proofs.Ytkdjdnknhbmliaa
open Go.RowKit

/-- Does a danger come before another one? -/
noncomputable def befB (a b : List Int) : Bool := by
  classical
  exact decide (BefD a b)
theorem befB_yes {a b : List Int} (h : BefD a b) : befB a b = true := by classical simpa [befB] using h
theorem befB_no {a b : List Int} (h : ¬ BefD a b) : befB a b = false := by classical simpa [befB] using h

/-- The two numbers of a list, as they lie. -/
theorem two_at {w : World} {A : Option Addr} {d : List Int} (h : Holds w A (nums d)) (hl : d.length = 2) : ∃ b o, A = some ⟨b, o, none⟩ ∧ b < w.heap.size ∧ w.cell? ⟨b, o, none⟩ = some (.int .i64 (d.getD 0 0)) ∧ w.cell? ⟨b, o + 1, none⟩ = some (.int .i64 (d.getD 1 0)) := by
  obtain ⟨x, y, rfl⟩ : ∃ x y, d = [x, y] := by
    match d, hl with
    | [x, y], _ => exact ⟨x, y, rfl⟩
  rcases h with h | ⟨b, o, hA, hb, hc⟩
  · cases h
  · exact ⟨b, o, hA, hb, hc 0 _ rfl, hc 1 _ rfl⟩

set_option maxHeartbeats 1600000 in
theorem keBefore_any (A B : Option Addr) (n c m d : Nat) (x y : List Int) (w : World) (hA : Holds w A (nums x)) (hB : Holds w B (nums y)) (hx : x.length = 2) (hy : y.length = 2) (hn : n = 2) (hm : m = 2) :
    Calls Try.prog 105 #[.slice A n c, .slice B m d] w fun e w' => e = .returned (.bool (befB x y)) ∧ ∃ k, w' = w.drewN k := by
  subst hn hm
  obtain ⟨b, o, rfl, hb, a0, a1⟩ := two_at hA hx
  obtain ⟨b', o', rfl, hb', c0, c1⟩ := two_at hB hy
  have HY : Hid (BefD x y ↔ (x.getD 0 0 < y.getD 0 0 ∨ (x.getD 0 0 = y.getD 0 0 ∧ x.getD 1 0 < y.getD 1 0))) := Iff.rfl
  obtain ⟨p, hp⟩ : ∃ p : Prop, p = BefD x y := ⟨_, rfl⟩
  obtain ⟨q, hq⟩ : ∃ q : Bool, q = befB x y := ⟨_, rfl⟩
  have HYES : Hid (BefD x y → q = true) := fun h => by rw [hq]; exact befB_yes h
  have HNO : Hid (¬ BefD x y → q = false) := fun h => by rw [hq]; exact befB_no h
  rw [← hq]
  clear hp hq hA hB hx hy
  generalize x.getD 0 0 = x0 at *
  generalize y.getD 0 0 = y0 at *
  generalize x.getD 1 0 = x1 at *
  generalize y.getD 1 0 = y1 at *
  by_cases h1 : x0 < y0
  · have HQ : Hid (q = true) := HYES.out (HY.out.2 (by omega))
    have d1 : decide (x0 < y0) = true := by simp [h1]
    clear HYES HNO HY
    go_enter Try.func105, Try.ntmps105
    go_wp2
    go_quiet (fail)
    go_wp2
    go_ret
    exact ⟨ret_of (by rw [HQ.out]; first | rfl | simp), _, rfl⟩
  · by_cases h2 : x0 = y0
    · by_cases h3 : x1 < y1
      · have HQ : Hid (q = true) := HYES.out (HY.out.2 (by omega))
        have d1 : decide (x0 < y0) = false := by simp; omega
        have d2 : (x0 == y0) = true := by simp [h2]
        have d3 : decide (x1 < y1) = true := by simp [h3]
        clear HYES HNO HY
        go_enter Try.func105, Try.ntmps105
        go_wp2
        go_quiet (fail)
        go_wp2
        go_ret
        exact ⟨ret_of (by rw [HQ.out]; first | rfl | simp), _, rfl⟩
      · have HQ : Hid (q = false) := HNO.out (fun h => by have := HY.out.1 h; omega)
        have d1 : decide (x0 < y0) = false := by simp; omega
        have d2 : (x0 == y0) = true := by simp [h2]
        have d3 : decide (x1 < y1) = false := by simp; omega
        clear HYES HNO HY
        go_enter Try.func105, Try.ntmps105
        go_wp2
        go_quiet (fail)
        go_wp2
        go_ret
        exact ⟨ret_of (by rw [HQ.out]; first | rfl | simp), _, rfl⟩
    · have HQ : Hid (q = false) := HNO.out (fun h => by have := HY.out.1 h; omega)
      have d1 : decide (x0 < y0) = false := by simp; omega
      have d2 : (x0 == y0) = false := by simp [h2]
      clear HYES HNO HY
      go_enter Try.func105, Try.ntmps105
      go_wp2
      go_quiet (fail)
      go_wp2
      go_ret
      exact ⟨ret_of (by rw [HQ.out]; first | rfl | simp), _, rfl⟩

/-- A row of a grid, told at its place. -/
theorem grid_row {w : World} {A : Option Addr} {rs : List RowV} (h : Grid w A rs) {k : Nat} (hk : k < rs.length) : ∃ b o, A = some ⟨b, o, none⟩ ∧ b < w.heap.size ∧ w.cell? ⟨b, o + k, none⟩ = some (.slice rs[k].A rs[k].n rs[k].c) ∧ Holds w rs[k].A (nums rs[k].xs) ∧ rs[k].xs.length = rs[k].n ∧ rs[k].n ≤ 9223372036854775807 := by
  obtain ⟨b, o, rfl, hb, hc⟩ := h.1.look (k := k) (by rw [rowVals_len]; exact hk)
  have hok := h.2 rs[k] (List.getElem_mem hk)
  refine ⟨b, o, rfl, hb, ?_, hok.1, hok.2.1, hok.2.2⟩
  rw [hc]
  simp [rowVals, RowV.val]
theorem rows_at (rs : List RowV) {k : Nat} (hk : k < rs.length) : (rowNums rs).getD k [] = rs[k].xs := by
  simp [rowNums, hk]

set_option maxHeartbeats 3200000 in
set_option maxRecDepth 100000 in
theorem keGood_any (k s : Int) (A : Option Addr) (n c : Nat) (rs : List RowV) (w : World) (hA : Grid w A rs) (hx : rs.length = n) (hn : n ≤ 1048576) :
    Calls Try.prog 84 #[.agg #[.int .i64 k, .slice A n c, .int .i64 s]] w fun e w' => e = .returned (.bool (keepOk k s (rowNums rs))) ∧ Below w.heap.size w w' := by
  subst hx
  have HLS := Lib.hid (rowNums_len rs)
  have h0 := Lib.hid (Whole.fresh w 54 #[.int .i64 k, .slice A rs.length c, .int .i64 s])
  have hb1 := Lib.hid (below1 w (.cells #[.int .i64 k, .slice A rs.length c, .int .i64 s] 54))
  have HG := Lib.hid hA
  obtain ⟨f0, f1, f2⟩ := h0.out.cells3
  obtain ⟨q, hq⟩ : ∃ q : Bool, q = keepOk k s (rowNums rs) := ⟨_, rfl⟩
  rw [← hq]
  have HQ := Lib.hid hq
  clear hq hA
  cases hk : within k 0 8
  · have HQ2 : Hid (q = false) := by
      show _ = _
      rw [HQ.out]
      exact keepOk_out fun h => by rw [within_yes h.1 h.2.1] at hk; cases hk
    have HK := Lib.hid hk
    clear HQ hk
    go_enter Try.func84, Try.ntmps84
    go_wp2_with (go_at_call 81; refine (l1In_any _ _ _ _).mono ?_; rintro e w' ⟨rfl, rfl⟩; rw [HK.out])
    go_ret
    exact ⟨ret_of (by rw [HQ2.out]; rfl), hb1.out⟩
  · cases hs : within s 0 8
    · have HQ2 : Hid (q = false) := by
        show _ = _
        rw [HQ.out]
        exact keepOk_out fun h => by rw [within_yes h.2.2.1 h.2.2.2] at hs; cases hs
      have HK := Lib.hid hk
      have HS := Lib.hid hs
      clear HQ hk hs
      go_enter Try.func84, Try.ntmps84
      go_wp2_with (go_at_call 81; refine (l1In_any _ _ _ _).mono ?_; rintro e w' ⟨rfl, rfl⟩; first | rw [HK.out] | rw [HS.out])
      go_ret
      exact ⟨ret_of (by rw [HQ2.out]; rfl), hb1.out⟩
    · have hk2 := within_iff.1 hk
      have hs2 := within_iff.1 hs
      have HK := Lib.hid hk
      have HS := Lib.hid hs
      have HKS : Hid (0 ≤ k ∧ k ≤ 8 ∧ 0 ≤ s ∧ s ≤ 8) := ⟨hk2.1, hk2.2, hs2.1, hs2.2⟩
      have hkw : IntKind.i64.wrap (k - 1) = k - 1 := IntWalk.i64_in _ (by omega)
      clear hk hs
      go_enter Try.func84, Try.ntmps84
      go_wp2_with (go_at_call 81; refine (l1In_any _ _ _ _).mono ?_; rintro e w' ⟨rfl, rfl⟩; first | rw [HK.out] | rw [HS.out])
      go_loopw [18] (fun i wr => ∃ j : Nat, j ≤ rs.length ∧ i = .int .i64 j ∧ DgTo k (rowNums rs) j ∧ Whole wr w.heap.size 54 #[.int .i64 k, .slice A rs.length c, .int .i64 s] ∧ Below w.heap.size w wr) (fun i _ => rs.length - (intOf i).toNat)
      case atStart => exact ⟨0, Nat.zero_le _, rfl, DgTo.start _ _, h0.out, hb1.out⟩
      case round =>
        clear f0 f1 f2 h0 hb1
        obtain ⟨j, hj, rfl, hdt, h0, hb⟩ := hrel
        by_cases hlt : j < rs.length
        · have hg := HG.out.below hb
          obtain ⟨b, o, rfl, hbl, hcell, hrow, hrl, hrn⟩ := grid_row hg hlt
          have HAT := Lib.hid (rows_at rs hlt)
          obtain ⟨f0, f1, f2⟩ := h0.cells3
          obtain ⟨R, hR⟩ : ∃ R, R = rs[j] := ⟨_, rfl⟩
          rw [← hR] at hcell hrow hrl hrn HAT
          have HD := Lib.hid hdt
          have H0 := Lib.hid h0
          have HB := Lib.hid hb
          have HRW := Lib.hid hrow
          have HJ : Hid (j < (rowNums rs).length) := by show _ < _; rw [HLS.out]; exact hlt
          have HRL := Lib.hid hrl
          have HRN := Lib.hid hrn
          clear hg hdt h0 hb hrow hR hrl
          obtain ⟨rA, rn, rc, rxs⟩ := R
          replace hcell : World.cell? wr ⟨b, o + j, none⟩ = some (.slice rA rn rc) := hcell
          replace hrn : rn ≤ 9223372036854775807 := hrn
          have HRL2 : Hid (rxs.length = rn) := HRL.out
          have HRW2 : Hid (Holds wr rA (nums rxs)) := HRW.out
          have HAT2 : Hid ((rowNums rs).getD j [] = rxs) := HAT.out
          clear HRL HRW HAT HRN
          by_cases h2 : rn = 2
          · subst h2
            have hne : ((2 : Int) != 2) = false := by decide
            cases hr : rising rxs (k - 1)
            · have HN : Hid (q = false) := by
                show _ = _
                rw [HQ.out]
                refine keepOk_no HJ.out fun h => ?_
                have h1 := h.1
                rw [HAT2.out] at h1
                rw [(rising_dg HRL2.out).2 h1] at hr
                cases hr
              have HR := Lib.hid hr
              clear hr HQ
              go_wp2_with (go_at_call 120; refine (l1Rising_any _ _ _ rxs (k - 1) _ HRW2.out HRL2.out (by omega)).mono ?_; rintro e w' ⟨rfl, rfl⟩; rw [HR.out])
              go_ret
              exact ⟨ret_of (by rw [HN.out]; rfl), HB.out⟩
            · have HDG := Lib.hid ((rising_dg HRL2.out).1 hr)
              have HR := Lib.hid hr
              clear hr
              by_cases hj0 : j = 0
              · subst hj0
                have HST : Hid (DgTo k (rowNums rs) (0 + 1)) := HD.out.next ⟨by rw [HAT2.out]; exact HDG.out, .inl rfl⟩
                simp only [Nat.add_zero] at hcell
                go_wp2_with (go_at_call 120; refine (l1Rising_any _ _ _ rxs (k - 1) _ HRW2.out HRL2.out (by omega)).mono ?_; rintro e w' ⟨rfl, rfl⟩; rw [HR.out])
                go_roundw
                case rel => exact ⟨1, by omega, by go_num, HST.out, H0.out, HB.out⟩
                case measure => simp [intOf]; omega
              · have hlt1 : j - 1 < rs.length := by omega
                obtain ⟨b', o', hA', hbl', hcell', hrow', hrl', hrn'⟩ := grid_row (HG.out.below HB.out) hlt1
                simp only [Option.some.injEq, Addr.mk.injEq] at hA'
                obtain ⟨rfl, rfl, -⟩ := hA'
                have HDG' : Hid (IsDg k rs[j - 1].xs) := by
                  have h := (HD.out (j - 1) (by omega)).1
                  rw [rows_at rs hlt1] at h
                  exact h
                have HAT' := Lib.hid (rows_at rs hlt1)
                obtain ⟨R', hR'⟩ : ∃ R, R = rs[j - 1] := ⟨_, rfl⟩
                rw [← hR'] at hcell' hrow' hrl' hrn' HDG' HAT'
                obtain ⟨rA', rn', rc', rxs'⟩ := R'
                replace hcell' : World.cell? wr ⟨b, o + (j - 1), none⟩ = some (.slice rA' rn' rc') := hcell'
                have HRL' : Hid (rxs'.length = 2) := HDG'.out.1
                obtain rfl : rn' = 2 := by have h1 : rxs'.length = rn' := hrl'; have := HRL'.out; omega
                have HRW' : Hid (Holds wr rA' (nums rxs')) := hrow'
                have HAT3 : Hid ((rowNums rs).getD (j - 1) [] = rxs') := HAT'.out
                clear hrow' hrl' hrn' hR' HDG' HAT'
                have hkp : decide ((0 : Int) < (j : Int)) = true := by simp; omega
                have hkp2 : (0 : Int) < (j : Int) := by omega
                have htn : ((j : Int) - 1).toNat = j - 1 := by omega
                have hjw : IntKind.i64.wrap ((j : Int) - 1) = (j : Int) - 1 := IntWalk.i64_in _ (by omega)
                have hji : (0 : Int) ≤ (j : Int) - 1 := by omega
                have hjl : (j : Int) - 1 < (rs.length : Int) := by omega
                cases hbf : befB rxs' rxs
                · have HN : Hid (q = false) := by
                    show _ = _
                    rw [HQ.out]
                    refine keepOk_no HJ.out fun h => ?_
                    rcases h.2 with h1 | h1
                    · exact hj0 h1
                    · rw [HAT2.out, HAT3.out] at h1
                      rw [befB_yes h1] at hbf
                      cases hbf
                  have HF := Lib.hid hbf
                  clear hbf HQ
                  go_wp2_with (first | (go_at_call 120; refine (l1Rising_any _ _ _ rxs (k - 1) _ HRW2.out HRL2.out (by omega)).mono ?_; rintro e w' ⟨rfl, rfl⟩; rw [HR.out]) | (go_at_call 105; refine (keBefore_any _ _ _ _ _ _ rxs' rxs _ HRW'.out HRW2.out HRL'.out HRL2.out rfl rfl).mono ?_; rintro e w' ⟨rfl, kk, rfl⟩; rw [HF.out]))
                  go_ret
                  exact ⟨ret_of (by rw [HN.out]; rfl), below_draws HB.out kk⟩
                · have HST : Hid (DgTo k (rowNums rs) (j + 1)) := HD.out.next ⟨by rw [HAT2.out]; exact HDG.out, .inr (by
                    rw [HAT2.out, HAT3.out]
                    exact Classical.byContradiction fun h => by rw [befB_no h] at hbf; cases hbf)⟩
                  have HF := Lib.hid hbf
                  clear hbf
                  go_wp2_with (first | (go_at_call 120; refine (l1Rising_any _ _ _ rxs (k - 1) _ HRW2.out HRL2.out (by omega)).mono ?_; rintro e w' ⟨rfl, rfl⟩; rw [HR.out]) | (go_at_call 105; refine (keBefore_any _ _ _ _ _ _ rxs' rxs _ HRW'.out HRW2.out HRL'.out HRL2.out rfl rfl).mono ?_; rintro e w' ⟨rfl, kk, rfl⟩; rw [HF.out]))
                  go_roundw
                  case rel => exact ⟨j + 1, by omega, by go_num, HST.out, H0.out.below (below_draws (Below.refl _ _) kk), below_draws HB.out kk⟩
                  case measure => simp [intOf]; omega
          · have hne : ((rn : Int) != 2) = true := by simp; omega
            have HN : Hid (q = false) := by
              show _ = _
              rw [HQ.out]
              refine keepOk_no HJ.out fun h => ?_
              have h1 := h.1.1
              rw [HAT2.out, HRL2.out] at h1
              exact h2 h1
            have h2' := Lib.hid h2
            clear HQ h2
            go_wp2
            go_ret
            exact ⟨ret_of (by rw [HN.out]; rfl), HB.out⟩
        · have HN : Hid (q = true) := by
            show _ = _
            rw [HQ.out]
            exact keepOk_yes HKS.out hdt (by rw [HLS.out]; omega)
          clear HQ
          go_wp2
          go_ret
          exact ⟨ret_of (by rw [HN.out]; rfl), hb⟩

set_option maxHeartbeats 800000 in
theorem specIsKeep_any (k s : Int) (A : Option Addr) (n c : Nat) (rs : List RowV) (w : World) (hA : Grid w A rs) (hx : rs.length = n) (hn : n ≤ 1048576) :
    Calls Try.prog 35 #[.agg #[.int .i64 k, .slice A n c, .int .i64 s]] w fun e w' => e = .returned (.bool (keepOk k s (rowNums rs))) ∧ Below w.heap.size w w' := by
  have HX := Lib.hid hx
  clear hx
  have hb1 := below1 w (.cells #[.int .i64 k, .slice A n c, .int .i64 s] 54)
  go_enter Try.func35, Try.ntmps35
  go_wp2_with fail
  refine (keGood_any k s A n c rs _ (by exact hA.below hb1) HX.out hn).mono ?_
  rintro e w1 ⟨rfl, hb⟩
  have ht := below_then hb1 hb (by simp)
  go_wp2
  go_ret
  exact ⟨rfl, ht⟩
end Go.Proofs.Ytkdjdnknhbmliaa
