/-
  What is proved: contracts of the model's test of a keep (keGood) and of keBefore. Conditions: the lists are read as they lie.
  What is proved: contracts of the program's test of a keep (IsKeep), of isDanger and of slices.Compare on lists of two. Conditions: the lists are read as they lie.
  What is proved: contracts of the first and the last bank of a keep, as the model and the program make them. Conditions: the keep's dangers are read as they lie.
  What is proved: contracts of the program's test of a place of a keep (leaves, slices.ContainsFunc with it, isSafePlace). Conditions: the dangers are read as they lie, and are dangers.
  What is proved: plain facts on lists of lists that a call hands back. Conditions: none.
  What is proved: contracts of the model's dangers in a bank (keAsked, keNow, IsSafe, DangersNow). Conditions: the arguments are read as they lie.
  What is proved: the numbers of states: the torch, then the people, as digits, and back. Conditions: as each says.
  What is proved: the contract of the model's state with a number. Conditions: at most eight people; a number below 1,048,576.
  What is proved: the contract of the model's CountSafe. Conditions: the arguments are read as they lie.
  What is proved: contracts of IsSafe and DangersNow, of the model and of the program. Conditions: the arguments are read as they lie.
  What is proved: the contract of crowd.list: the people of a crowd in their order. Conditions: a crowd of a strictly rising list of numbers from 0 to 7.
  What is proved: the people who are where the torch is, as the program lists them. Conditions: at most eight people.
  What is proved: the crowds of so many people, as the program lists them. Conditions: at most eight people.
  What is proved: contracts of the program's loadsUpTo and CountSafe. Conditions: the arguments are read as they lie.
  What is proved: that the program's count of safe banks is the model's, and the contract of the program's CountSafe. Conditions: the arguments are read as they lie.
  What is proved: plain facts on the shortest lists of things that hold all dangers: the model's way over all lists and the program's over ever longer ones find the same. Conditions: at most eight things.
  What is proved: the contract of the program's LeastWatched. Conditions: the arguments are read as they lie.
-/
import Derived.Lib.Small
import Derived.BigQuiet
import Derived.Deep.RegionHeld3
import Derived.Deep.DeepCutAuto
import Derived.Laws.AppendOwnNone
import Derived.Test.YtcikimjpjebflaaJ2LeastWatched
set_option linter.unusedSimpArgs false
set_option linter.unusedVariables false
namespace Go.Proofs.Ytcikimjpjebflaa
open Go.RowKit

/-- Does a danger come before another one? -/
noncomputable def befB (a b : List Int) : Bool := by
  classical
  exact decide (BefD a b)
theorem befB_yes {a b : List Int} (h : BefD a b) : befB a b = true := by classical simpa [befB] using h
theorem befB_no {a b : List Int} (h : ¬ BefD a b) : befB a b = false := by classical simpa [befB] using h

/-- The two numbers of a list, as they lie. -/
theorem two_at {w : World} {A : Option Addr} {d : List Int} (h : Holds w A (nums d)) (hl : d.length = 2) : ∃ b o, A = some ⟨b, o, none⟩ ∧ b < w.heap.size ∧ w.cell? ⟨b, o, none⟩ = some (.int .i64 (d.getD 0 0)) ∧ w.cell? ⟨b, o + 1, none⟩ = some (.int .i64 (d.getD 1 0)) := by
  obtain ⟨x, y, rfl⟩ : ∃ x y, d = [x, y] := by
    match d, hl with
    | [x, y], _ => exact ⟨x, y, rfl⟩
  rcases h with h | ⟨b, o, hA, hb, hc⟩
  · cases h
  · exact ⟨b, o, hA, hb, hc 0 _ rfl, hc 1 _ rfl⟩

set_option maxHeartbeats 1600000 in
theorem keBefore_any (A B : Option Addr) (n c m d : Nat) (x y : List Int) (w : World) (hA : Holds w A (nums x)) (hB : Holds w B (nums y)) (hx : x.length = 2) (hy : y.length = 2) (hn : n = 2) (hm : m = 2) :
    Calls Try.prog 139 #[.slice A n c, .slice B m d] w fun e w' => e = .returned (.bool (befB x y)) ∧ ∃ k, w' = w.drewN k := by
  subst hn hm
  obtain ⟨b, o, rfl, hb, a0, a1⟩ := two_at hA hx
  obtain ⟨b', o', rfl, hb', c0, c1⟩ := two_at hB hy
  have HY : Hid (BefD x y ↔ (x.getD 0 0 < y.getD 0 0 ∨ (x.getD 0 0 = y.getD 0 0 ∧ x.getD 1 0 < y.getD 1 0))) := Iff.rfl
  obtain ⟨p, hp⟩ : ∃ p : Prop, p = BefD x y := ⟨_, rfl⟩
  obtain ⟨q, hq⟩ : ∃ q : Bool, q = befB x y := ⟨_, rfl⟩
  have HYES : Hid (BefD x y → q = true) := fun h => by rw [hq]; exact befB_yes h
  have HNO : Hid (¬ BefD x y → q = false) := fun h => by rw [hq]; exact befB_no h
  rw [← hq]
  clear hp hq hA hB hx hy
  generalize x.getD 0 0 = x0 at *
  generalize y.getD 0 0 = y0 at *
  generalize x.getD 1 0 = x1 at *
  generalize y.getD 1 0 = y1 at *
  by_cases h1 : x0 < y0
  · have HQ : Hid (q = true) := HYES.out (HY.out.2 (by omega))
    have d1 : decide (x0 < y0) = true := by simp [h1]
    clear HYES HNO HY
    go_enter Try.func139, Try.ntmps139
    go_wp2
    go_quiet (fail)
    go_wp2
    go_ret
    exact ⟨ret_of (by rw [HQ.out]; first | rfl | simp), _, rfl⟩
  · by_cases h2 : x0 = y0
    · by_cases h3 : x1 < y1
      · have HQ : Hid (q = true) := HYES.out (HY.out.2 (by omega))
        have d1 : decide (x0 < y0) = false := by simp; omega
        have d2 : (x0 == y0) = true := by simp [h2]
        have d3 : decide (x1 < y1) = true := by simp [h3]
        clear HYES HNO HY
        go_enter Try.func139, Try.ntmps139
        go_wp2
        go_quiet (fail)
        go_wp2
        go_ret
        exact ⟨ret_of (by rw [HQ.out]; first | rfl | simp), _, rfl⟩
      · have HQ : Hid (q = false) := HNO.out (fun h => by have := HY.out.1 h; omega)
        have d1 : decide (x0 < y0) = false := by simp; omega
        have d2 : (x0 == y0) = true := by simp [h2]
        have d3 : decide (x1 < y1) = false := by simp; omega
        clear HYES HNO HY
        go_enter Try.func139, Try.ntmps139
        go_wp2
        go_quiet (fail)
        go_wp2
        go_ret
        exact ⟨ret_of (by rw [HQ.out]; first | rfl | simp), _, rfl⟩
    · have HQ : Hid (q = false) := HNO.out (fun h => by have := HY.out.1 h; omega)
      have d1 : decide (x0 < y0) = false := by simp; omega
      have d2 : (x0 == y0) = false := by simp [h2]
      clear HYES HNO HY
      go_enter Try.func139, Try.ntmps139
      go_wp2
      go_quiet (fail)
      go_wp2
      go_ret
      exact ⟨ret_of (by rw [HQ.out]; first | rfl | simp), _, rfl⟩

/-- A row of a grid, told at its place. -/
theorem grid_row {w : World} {A : Option Addr} {rs : List RowV} (h : Grid w A rs) {k : Nat} (hk : k < rs.length) : ∃ b o, A = some ⟨b, o, none⟩ ∧ b < w.heap.size ∧ w.cell? ⟨b, o + k, none⟩ = some (.slice rs[k].A rs[k].n rs[k].c) ∧ Holds w rs[k].A (nums rs[k].xs) ∧ rs[k].xs.length = rs[k].n ∧ rs[k].n ≤ 9223372036854775807 := by
  obtain ⟨b, o, rfl, hb, hc⟩ := h.1.look (k := k) (by rw [rowVals_len]; exact hk)
  have hok := h.2 rs[k] (List.getElem_mem hk)
  refine ⟨b, o, rfl, hb, ?_, hok.1, hok.2.1, hok.2.2⟩
  rw [hc]
  simp [rowVals, RowV.val]
theorem rows_at (rs : List RowV) {k : Nat} (hk : k < rs.length) : (rowNums rs).getD k [] = rs[k].xs := by
  simp [rowNums, hk]

set_option maxHeartbeats 3200000 in
set_option maxRecDepth 100000 in
theorem keGood_any (k s : Int) (A : Option Addr) (n c : Nat) (rs : List RowV) (w : World) (hA : Grid w A rs) (hx : rs.length = n) (hn : n ≤ 1048576) :
    Calls Try.prog 99 #[.agg #[.int .i64 k, .slice A n c, .int .i64 s]] w fun e w' => e = .returned (.bool (keepOk k s (rowNums rs))) ∧ Below w.heap.size w w' := by
  subst hx
  have HLS := Lib.hid (rowNums_len rs)
  have h0 := Lib.hid (Whole.fresh w 69 #[.int .i64 k, .slice A rs.length c, .int .i64 s])
  have hb1 := Lib.hid (below1 w (.cells #[.int .i64 k, .slice A rs.length c, .int .i64 s] 69))
  have HG := Lib.hid hA
  obtain ⟨f0, f1, f2⟩ := h0.out.cells3
  obtain ⟨q, hq⟩ : ∃ q : Bool, q = keepOk k s (rowNums rs) := ⟨_, rfl⟩
  rw [← hq]
  have HQ := Lib.hid hq
  clear hq hA
  cases hk : within k 0 8
  · have HQ2 : Hid (q = false) := by
      show _ = _
      rw [HQ.out]
      exact keepOk_out fun h => by rw [within_yes h.1 h.2.1] at hk; cases hk
    have HK := Lib.hid hk
    clear HQ hk
    go_enter Try.func99, Try.ntmps99
    go_wp2_with (go_at_call 83; refine (l1In_any _ _ _ _).mono ?_; rintro e w' ⟨rfl, rfl⟩; rw [HK.out])
    go_ret
    exact ⟨ret_of (by rw [HQ2.out]; rfl), hb1.out⟩
  · cases hs : within s 0 8
    · have HQ2 : Hid (q = false) := by
        show _ = _
        rw [HQ.out]
        exact keepOk_out fun h => by rw [within_yes h.2.2.1 h.2.2.2] at hs; cases hs
      have HK := Lib.hid hk
      have HS := Lib.hid hs
      clear HQ hk hs
      go_enter Try.func99, Try.ntmps99
      go_wp2_with (go_at_call 83; refine (l1In_any _ _ _ _).mono ?_; rintro e w' ⟨rfl, rfl⟩; first | rw [HK.out] | rw [HS.out])
      go_ret
      exact ⟨ret_of (by rw [HQ2.out]; rfl), hb1.out⟩
    · have hk2 := within_iff.1 hk
      have hs2 := within_iff.1 hs
      have HK := Lib.hid hk
      have HS := Lib.hid hs
      have HKS : Hid (0 ≤ k ∧ k ≤ 8 ∧ 0 ≤ s ∧ s ≤ 8) := ⟨hk2.1, hk2.2, hs2.1, hs2.2⟩
      have hkw : IntKind.i64.wrap (k - 1) = k - 1 := IntWalk.i64_in _ (by omega)
      clear hk hs
      go_enter Try.func99, Try.ntmps99
      go_wp2_with (go_at_call 83; refine (l1In_any _ _ _ _).mono ?_; rintro e w' ⟨rfl, rfl⟩; first | rw [HK.out] | rw [HS.out])
      go_loopw [18] (fun i wr => ∃ j : Nat, j ≤ rs.length ∧ i = .int .i64 j ∧ DgTo k (rowNums rs) j ∧ Whole wr w.heap.size 69 #[.int .i64 k, .slice A rs.length c, .int .i64 s] ∧ Below w.heap.size w wr) (fun i _ => rs.length - (intOf i).toNat)
      case atStart => exact ⟨0, Nat.zero_le _, rfl, DgTo.start _ _, h0.out, hb1.out⟩
      case round =>
        clear f0 f1 f2 h0 hb1
        obtain ⟨j, hj, rfl, hdt, h0, hb⟩ := hrel
        by_cases hlt : j < rs.length
        · have hg := HG.out.below hb
          obtain ⟨b, o, rfl, hbl, hcell, hrow, hrl, hrn⟩ := grid_row hg hlt
          have HAT := Lib.hid (rows_at rs hlt)
          obtain ⟨f0, f1, f2⟩ := h0.cells3
          obtain ⟨R, hR⟩ : ∃ R, R = rs[j] := ⟨_, rfl⟩
          rw [← hR] at hcell hrow hrl hrn HAT
          have HD := Lib.hid hdt
          have H0 := Lib.hid h0
          have HB := Lib.hid hb
          have HRW := Lib.hid hrow
          have HJ : Hid (j < (rowNums rs).length) := by show _ < _; rw [HLS.out]; exact hlt
          have HRL := Lib.hid hrl
          have HRN := Lib.hid hrn
          clear hg hdt h0 hb hrow hR hrl
          obtain ⟨rA, rn, rc, rxs⟩ := R
          replace hcell : World.cell? wr ⟨b, o + j, none⟩ = some (.slice rA rn rc) := hcell
          replace hrn : rn ≤ 9223372036854775807 := hrn
          have HRL2 : Hid (rxs.length = rn) := HRL.out
          have HRW2 : Hid (Holds wr rA (nums rxs)) := HRW.out
          have HAT2 : Hid ((rowNums rs).getD j [] = rxs) := HAT.out
          clear HRL HRW HAT HRN
          by_cases h2 : rn = 2
          · subst h2
            have hne : ((2 : Int) != 2) = false := by decide
            cases hr : rising rxs (k - 1)
            · have HN : Hid (q = false) := by
                show _ = _
                rw [HQ.out]
                refine keepOk_no HJ.out fun h => ?_
                have h1 := h.1
                rw [HAT2.out] at h1
                rw [(rising_dg HRL2.out).2 h1] at hr
                cases hr
              have HR := Lib.hid hr
              clear hr HQ
              go_wp2_with (go_at_call 138; refine (l1Rising_any _ _ _ rxs (k - 1) _ HRW2.out HRL2.out (by omega)).mono ?_; rintro e w' ⟨rfl, rfl⟩; rw [HR.out])
              go_ret
              exact ⟨ret_of (by rw [HN.out]; rfl), HB.out⟩
            · have HDG := Lib.hid ((rising_dg HRL2.out).1 hr)
              have HR := Lib.hid hr
              clear hr
              by_cases hj0 : j = 0
              · subst hj0
                have HST : Hid (DgTo k (rowNums rs) (0 + 1)) := HD.out.next ⟨by rw [HAT2.out]; exact HDG.out, .inl rfl⟩
                simp only [Nat.add_zero] at hcell
                go_wp2_with (go_at_call 138; refine (l1Rising_any _ _ _ rxs (k - 1) _ HRW2.out HRL2.out (by omega)).mono ?_; rintro e w' ⟨rfl, rfl⟩; rw [HR.out])
                go_roundw
                case rel => exact ⟨1, by omega, by go_num, HST.out, H0.out, HB.out⟩
                case measure => simp [intOf]; omega
              · have hlt1 : j - 1 < rs.length := by omega
                obtain ⟨b', o', hA', hbl', hcell', hrow', hrl', hrn'⟩ := grid_row (HG.out.below HB.out) hlt1
                simp only [Option.some.injEq, Addr.mk.injEq] at hA'
                obtain ⟨rfl, rfl, -⟩ := hA'
                have HDG' : Hid (IsDg k rs[j - 1].xs) := by
                  have h := (HD.out (j - 1) (by omega)).1
                  rw [rows_at rs hlt1] at h
                  exact h
                have HAT' := Lib.hid (rows_at rs hlt1)
                obtain ⟨R', hR'⟩ : ∃ R, R = rs[j - 1] := ⟨_, rfl⟩
                rw [← hR'] at hcell' hrow' hrl' hrn' HDG' HAT'
                obtain ⟨rA', rn', rc', rxs'⟩ := R'
                replace hcell' : World.cell? wr ⟨b, o + (j - 1), none⟩ = some (.slice rA' rn' rc') := hcell'
                have HRL' : Hid (rxs'.length = 2) := HDG'.out.1
                obtain rfl : rn' = 2 := by have h1 : rxs'.length = rn' := hrl'; have := HRL'.out; omega
                have HRW' : Hid (Holds wr rA' (nums rxs')) := hrow'
                have HAT3 : Hid ((rowNums rs).getD (j - 1) [] = rxs') := HAT'.out
                clear hrow' hrl' hrn' hR' HDG' HAT'
                have hkp : decide ((0 : Int) < (j : Int)) = true := by simp; omega
                have hkp2 : (0 : Int) < (j : Int) := by omega
                have htn : ((j : Int) - 1).toNat = j - 1 := by omega
                have hjw : IntKind.i64.wrap ((j : Int) - 1) = (j : Int) - 1 := IntWalk.i64_in _ (by omega)
                have hji : (0 : Int) ≤ (j : Int) - 1 := by omega
                have hjl : (j : Int) - 1 < (rs.length : Int) := by omega
                cases hbf : befB rxs' rxs
                · have HN : Hid (q = false) := by
                    show _ = _
                    rw [HQ.out]
                    refine keepOk_no HJ.out fun h => ?_
                    rcases h.2 with h1 | h1
                    · exact hj0 h1
                    · rw [HAT2.out, HAT3.out] at h1
                      rw [befB_yes h1] at hbf
                      cases hbf
                  have HF := Lib.hid hbf
                  clear hbf HQ
                  go_wp2_with (first | (go_at_call 138; refine (l1Rising_any _ _ _ rxs (k - 1) _ HRW2.out HRL2.out (by omega)).mono ?_; rintro e w' ⟨rfl, rfl⟩; rw [HR.out]) | (go_at_call 139; refine (keBefore_any _ _ _ _ _ _ rxs' rxs _ HRW'.out HRW2.out HRL'.out HRL2.out rfl rfl).mono ?_; rintro e w' ⟨rfl, kk, rfl⟩; rw [HF.out]))
                  go_ret
                  exact ⟨ret_of (by rw [HN.out]; rfl), below_draws HB.out kk⟩
                · have HST : Hid (DgTo k (rowNums rs) (j + 1)) := HD.out.next ⟨by rw [HAT2.out]; exact HDG.out, .inr (by
                    rw [HAT2.out, HAT3.out]
                    exact Classical.byContradiction fun h => by rw [befB_no h] at hbf; cases hbf)⟩
                  have HF := Lib.hid hbf
                  clear hbf
                  go_wp2_with (first | (go_at_call 138; refine (l1Rising_any _ _ _ rxs (k - 1) _ HRW2.out HRL2.out (by omega)).mono ?_; rintro e w' ⟨rfl, rfl⟩; rw [HR.out]) | (go_at_call 139; refine (keBefore_any _ _ _ _ _ _ rxs' rxs _ HRW'.out HRW2.out HRL'.out HRL2.out rfl rfl).mono ?_; rintro e w' ⟨rfl, kk, rfl⟩; rw [HF.out]))
                  go_roundw
                  case rel => exact ⟨j + 1, by omega, by go_num, HST.out, H0.out.below (below_draws (Below.refl _ _) kk), below_draws HB.out kk⟩
                  case measure => simp [intOf]; omega
          · have hne : ((rn : Int) != 2) = true := by simp; omega
            have HN : Hid (q = false) := by
              show _ = _
              rw [HQ.out]
              refine keepOk_no HJ.out fun h => ?_
              have h1 := h.1.1
              rw [HAT2.out, HRL2.out] at h1
              exact h2 h1
            have h2' := Lib.hid h2
            clear HQ h2
            go_wp2
            go_ret
            exact ⟨ret_of (by rw [HN.out]; rfl), HB.out⟩
        · have HN : Hid (q = true) := by
            show _ = _
            rw [HQ.out]
            exact keepOk_yes HKS.out hdt (by rw [HLS.out]; omega)
          clear HQ
          go_wp2
          go_ret
          exact ⟨ret_of (by rw [HN.out]; rfl), hb⟩

end Go.Proofs.Ytcikimjpjebflaa

namespace Go.Proofs.Ytcikimjpjebflaa
open Go.RowKit

set_option maxHeartbeats 400000 in
theorem isNaNk_any (x : Int) (w : World) : Calls Try.prog 188 #[.int .i64 x] w fun e w' => e = .returned (.bool false) ∧ w = w' := by
  go_enter Try.func188, Try.ntmps188
  go_wp2
  go_ret
  exact ⟨by simp, rfl⟩
set_option maxHeartbeats 800000 in
theorem comparek_any (x y : Int) (w : World) : Calls Try.prog 163 #[.int .i64 x, .int .i64 y] w fun e w' => e = .returned (.int .i64 (Go.Lib.compareInt x y)) ∧ w = w' := by
  by_cases h : x < y
  · have HC : Hid (Go.Lib.compareInt x y = -1) := if_pos h
    go_enter Try.func163, Try.ntmps163
    go_wp2_with (go_at_call 188; refine (isNaNk_any _ _).mono ?_; rintro e w' ⟨rfl, rfl⟩)
    go_ret
    exact ⟨ret_of (by rw [HC.out]; rfl), rfl⟩
  · by_cases h2 : y < x
    · have HC : Hid (Go.Lib.compareInt x y = 1) := by show _ = _; rw [Go.Lib.compareInt, if_neg h, if_pos h2]
      go_enter Try.func163, Try.ntmps163
      go_wp2_with (go_at_call 188; refine (isNaNk_any _ _).mono ?_; rintro e w' ⟨rfl, rfl⟩)
      go_ret
      exact ⟨ret_of (by rw [HC.out]; rfl), rfl⟩
    · have HC : Hid (Go.Lib.compareInt x y = 0) := by show _ = _; rw [Go.Lib.compareInt, if_neg h, if_neg h2]
      go_enter Try.func163, Try.ntmps163
      go_wp2_with (go_at_call 188; refine (isNaNk_any _ _).mono ?_; rintro e w' ⟨rfl, rfl⟩)
      go_ret
      exact ⟨ret_of (by rw [HC.out]; rfl), rfl⟩

/-- Is a list a danger? -/
noncomputable def dgB (k : Int) (d : List Int) : Bool := by
  classical
  exact decide (IsDg k d)
theorem dgB_yes {k : Int} {d : List Int} (h : IsDg k d) : dgB k d = true := by classical simpa [dgB] using h
theorem dgB_no {k : Int} {d : List Int} (h : ¬ IsDg k d) : dgB k d = false := by classical simpa [dgB] using h

set_option maxHeartbeats 1600000 in
theorem isDanger_any (A : Option Addr) (n c : Nat) (d : List Int) (k : Int) (w : World) (hA : Holds w A (nums d)) (hx : d.length = n) (hn : n ≤ 9223372036854775807) :
    Calls Try.prog 140 #[.slice A n c, .int .i64 k] w fun e w' => e = .returned (.bool (dgB k d)) ∧ ∃ j, w' = w.drewN j := by
  by_cases h2 : n = 2
  · subst h2
    obtain ⟨b, o, rfl, hb, a0, a1⟩ := two_at hA hx
    have HY : Hid (IsDg k d ↔ (0 ≤ d.getD 0 0 ∧ d.getD 0 0 < d.getD 1 0 ∧ d.getD 1 0 < k)) := ⟨fun h => h.2, fun h => ⟨hx, h⟩⟩
    obtain ⟨q, hq⟩ : ∃ q : Bool, q = dgB k d := ⟨_, rfl⟩
    have HYES : Hid (IsDg k d → q = true) := fun h => by rw [hq]; exact dgB_yes h
    have HNO : Hid (¬ IsDg k d → q = false) := fun h => by rw [hq]; exact dgB_no h
    rw [← hq]
    clear hq hA hx
    generalize d.getD 0 0 = x0 at *
    generalize d.getD 1 0 = x1 at *
    have hl : (((2 : Nat) : Int) == 2) = true := rfl
    by_cases h0 : 0 ≤ x0
    · by_cases h1 : x0 < x1
      · by_cases h3 : x1 < k
        · have HQ : Hid (q = true) := HYES.out (HY.out.2 (by omega))
          have d0 : decide (0 ≤ x0) = true := by simp [h0]
          have d1 : decide (x0 < x1) = true := by simp [h1]
          have d3 : decide (x1 < k) = true := by simp [h3]
          clear HYES HNO HY
          go_enter Try.func140, Try.ntmps140
          go_wp2
          go_quiet (fail)
          go_wp2
          go_ret
          exact ⟨ret_of (by rw [HQ.out]; first | rfl | simp), _, rfl⟩
        · have HQ : Hid (q = false) := HNO.out (fun h => by have := HY.out.1 h; omega)
          have d0 : decide (0 ≤ x0) = true := by simp [h0]
          have d1 : decide (x0 < x1) = true := by simp [h1]
          have d3 : decide (x1 < k) = false := by simp; omega
          clear HYES HNO HY
          go_enter Try.func140, Try.ntmps140
          go_wp2
          go_quiet (fail)
          go_wp2
          go_ret
          exact ⟨ret_of (by rw [HQ.out]; first | rfl | simp), _, rfl⟩
      · have HQ : Hid (q = false) := HNO.out (fun h => by have := HY.out.1 h; omega)
        have d0 : decide (0 ≤ x0) = true := by simp [h0]
        have d1 : decide (x0 < x1) = false := by simp; omega
        clear HYES HNO HY
        go_enter Try.func140, Try.ntmps140
        go_wp2
        go_quiet (fail)
        go_wp2
        go_ret
        exact ⟨ret_of (by rw [HQ.out]; first | rfl | simp), _, rfl⟩
    · have HQ : Hid (q = false) := HNO.out (fun h => by have := HY.out.1 h; omega)
      have d0 : decide (0 ≤ x0) = false := by simp; omega
      clear HYES HNO HY
      go_enter Try.func140, Try.ntmps140
      go_wp2
      go_quiet (fail)
      go_wp2
      go_ret
      exact ⟨ret_of (by rw [HQ.out]; first | rfl | simp), _, rfl⟩
  · have HQ : Hid (dgB k d = false) := dgB_no fun h => h2 (by rw [← hx]; exact h.1)
    have hl : ((n : Int) == 2) = false := by simp; omega
    clear hA hx h2
    go_enter Try.func140, Try.ntmps140
    go_wp2
    go_quiet (fail)
    go_wp2
    go_ret
    exact ⟨ret_of (by rw [HQ.out]; first | rfl | simp), _, rfl⟩

instance befDec (a b : List Int) : Decidable (BefD a b) := by unfold BefD; infer_instance
/-- What slices.Compare tells of a list and a danger. -/
noncomputable def cmpD (a b : List Int) : Int := if a = [] then -1 else if BefD a b then -1 else if BefD b a then 1 else 0
theorem cmpD_neg {a b : List Int} (h : a = [] ∨ BefD a b) : cmpD a b = -1 := by
  unfold cmpD
  rcases h with h | h
  · rw [if_pos h]
  · by_cases ha : a = []
    · rw [if_pos ha]
    · rw [if_neg ha, if_pos h]
theorem cmpD_pos {a b : List Int} (h : a ≠ []) (h1 : ¬ BefD a b) : 0 ≤ cmpD a b := by
  unfold cmpD
  rw [if_neg h, if_neg h1]
  split <;> omega
theorem cmpD_0 {a b : List Int} (h : a ≠ []) (h1 : a.getD 0 0 ≠ b.getD 0 0) : cmpD a b = Go.Lib.compareInt (a.getD 0 0) (b.getD 0 0) := by
  unfold cmpD Go.Lib.compareInt BefD
  rw [if_neg h]
  repeat' split
  all_goals omega
theorem cmpD_1 {a b : List Int} (h : a ≠ []) (h1 : a.getD 0 0 = b.getD 0 0) : cmpD a b = Go.Lib.compareInt (a.getD 1 0) (b.getD 1 0) := by
  unfold cmpD Go.Lib.compareInt BefD
  rw [if_neg h]
  repeat' split
  all_goals omega

set_option maxHeartbeats 3200000 in
theorem compareD_any (A B : Option Addr) (n c m d : Nat) (x y : List Int) (w : World) (hA : Holds w A (nums x)) (hB : Holds w B (nums y)) (hx : x.length = n) (hn : x = [] ∨ x.length = 2) (hy : y.length = 2) (hm : m = 2) :
    Calls Try.prog 141 #[.slice A n c, .slice B m d] w fun e w' => e = .returned (.int .i64 (cmpD x y)) ∧ w = w' := by
  subst hm
  obtain ⟨b', o', rfl, hb', c0, c1⟩ := two_at hB hy
  rcases hn with rfl | hl
  · obtain rfl : n = 0 := by simpa using hx.symm
    have HQ : Hid (cmpD [] y = -1) := cmpD_neg (.inl rfl)
    clear hA hB hx hy
    go_enter Try.func141, Try.ntmps141
    go_wp2
    go_loop [11] (fun i => i = .int .i64 0) (fun _ => 0)
    case atStart => rfl
    case round =>
      subst hrel
      go_wp2
      go_ret
      exact ⟨ret_of (by rw [HQ.out]; rfl), rfl⟩
  · obtain rfl : n = 2 := by omega
    have hne : x ≠ [] := by intro h; rw [h] at hl; cases hl
    obtain ⟨b, o, rfl, hb, a0, a1⟩ := two_at hA hl
    have H0 : Hid (x.getD 0 0 ≠ y.getD 0 0 → cmpD x y = Go.Lib.compareInt (x.getD 0 0) (y.getD 0 0)) := cmpD_0 hne
    have H1 : Hid (x.getD 0 0 = y.getD 0 0 → cmpD x y = Go.Lib.compareInt (x.getD 1 0) (y.getD 1 0)) := cmpD_1 hne
    clear hA hB hx hy hl hne
    generalize cmpD x y = q at *
    generalize x.getD 0 0 = x0 at *
    generalize y.getD 0 0 = y0 at *
    generalize x.getD 1 0 = x1 at *
    generalize y.getD 1 0 = y1 at *
    go_enter Try.func141, Try.ntmps141
    go_wp2
    go_loop [11] (fun i => ∃ j : Nat, j ≤ 2 ∧ i = .int .i64 j ∧ (0 < j → x0 = y0) ∧ (1 < j → x1 = y1)) (fun i => 2 - (intOf i).toNat)
    case atStart => exact ⟨0, by omega, rfl, fun h => by omega, fun h => by omega⟩
    case round =>
      obtain ⟨j, hj, rfl, e0, e1⟩ := hrel
      have hjc : j = 0 ∨ j = 1 ∨ j = 2 := by omega
      rcases hjc with rfl | rfl | rfl
      · clear e0 e1
        by_cases he : x0 = y0
        · have HC : Hid (Go.Lib.compareInt x0 y0 = 0) := by show _ = _; unfold Go.Lib.compareInt; rw [if_neg (by omega), if_neg (by omega)]
          have HE := Lib.hid he
          clear he
          go_wp2_with (go_at_call 163; refine (comparek_any _ _ _).mono ?_; rintro e w' ⟨rfl, rfl⟩; rw [HC.out])
          go_round
          case rel => exact ⟨1, by omega, rfl, fun _ => HE.out, fun h => by omega⟩
          case measure => simp [intOf]
        · have HC : Hid ((Go.Lib.compareInt x0 y0 != 0) = true) := by show _ = _; unfold Go.Lib.compareInt; by_cases h1 : x0 < y0 <;> by_cases h2 : y0 < x0 <;> simp [h1, h2]; omega
          have HQ : Hid (q = Go.Lib.compareInt x0 y0) := H0.out he
          clear he
          have hc := HC.out
          go_wp2_with (go_at_call 163; refine (comparek_any _ _ _).mono ?_; rintro e w' ⟨rfl, rfl⟩)
          go_ret
          exact ⟨ret_of (by rw [HQ.out]; rfl), rfl⟩
      · have HE := Lib.hid (e0 (by omega))
        clear e0 e1
        by_cases he : x1 = y1
        · have HC : Hid (Go.Lib.compareInt x1 y1 = 0) := by show _ = _; unfold Go.Lib.compareInt; rw [if_neg (by omega), if_neg (by omega)]
          have HE1 := Lib.hid he
          clear he
          go_wp2_with (go_at_call 163; refine (comparek_any _ _ _).mono ?_; rintro e w' ⟨rfl, rfl⟩; rw [HC.out])
          go_round
          case rel => exact ⟨2, by omega, rfl, fun _ => HE.out, fun _ => HE1.out⟩
          case measure => simp [intOf]
        · have HC : Hid ((Go.Lib.compareInt x1 y1 != 0) = true) := by show _ = _; unfold Go.Lib.compareInt; by_cases h1 : x1 < y1 <;> by_cases h2 : y1 < x1 <;> simp [h1, h2]; omega
          have HQ : Hid (q = Go.Lib.compareInt x1 y1) := H1.out HE.out
          clear he
          have hc := HC.out
          go_wp2_with (go_at_call 163; refine (comparek_any _ _ _).mono ?_; rintro e w' ⟨rfl, rfl⟩)
          go_ret
          exact ⟨ret_of (by rw [HQ.out]; rfl), rfl⟩
      · have HQ : Hid (q = 0) := by
          show _ = _
          rw [H1.out (e0 (by omega)), e1 (by omega)]
          unfold Go.Lib.compareInt
          rw [if_neg (by omega), if_neg (by omega)]
        clear e0 e1
        go_wp2
        go_ret
        exact ⟨ret_of (by rw [HQ.out]; rfl), rfl⟩

set_option maxHeartbeats 3200000 in
set_option maxRecDepth 100000 in
theorem isKeep_any (k s : Int) (A : Option Addr) (n c : Nat) (rs : List RowV) (w : World) (hA : Grid w A rs) (hx : rs.length = n) (hn : n ≤ 1048576) :
    Calls Try.prog 102 #[.agg #[.int .i64 k, .slice A n c, .int .i64 s]] w fun e w' => e = .returned (.bool (keepOk k s (rowNums rs))) ∧ Below w.heap.size w w' := by
  subst hx
  have HLS := Lib.hid (rowNums_len rs)
  have h0 := Lib.hid (Whole.fresh w 69 #[.int .i64 k, .slice A rs.length c, .int .i64 s])
  have hb1 := Lib.hid (below1 w (.cells #[.int .i64 k, .slice A rs.length c, .int .i64 s] 69))
  have HG := Lib.hid hA
  obtain ⟨f0, f1, f2⟩ := h0.out.cells3
  obtain ⟨q, hq⟩ : ∃ q : Bool, q = keepOk k s (rowNums rs) := ⟨_, rfl⟩
  rw [← hq]
  have HQ := Lib.hid hq
  clear hq hA
  by_cases hok : 0 ≤ k ∧ k ≤ 8 ∧ 0 ≤ s ∧ s ≤ 8
  rotate_left
  · have HQ2 : Hid (q = false) := by
      show _ = _
      rw [HQ.out]
      exact keepOk_out hok
    clear HQ
    obtain ⟨g5, g6⟩ | ⟨g5, g6⟩ | ⟨g5, g6⟩ : (k ≤ s ∧ k < s) ∨ (k ≤ s ∧ ¬ k < s) ∨ (¬ k ≤ s ∧ ¬ k < s) := by omega
    all_goals (by_cases g1 : k < 0 <;> by_cases g2 : s < 0 <;> by_cases g3 : 8 < k <;> by_cases g4 : 8 < s)
    all_goals first
      | (exfalso; omega)
      | (clear hok; go_enter Try.func102, Try.ntmps102; go_wp2; go_ret; exact ⟨ret_of (by rw [HQ2.out]; rfl), hb1.out⟩)
  · have HKS := Lib.hid hok
    have g1 : ¬ k < 0 := by omega
    have g2 : ¬ s < 0 := by omega
    have g3 : ¬ 8 < k := by omega
    have g4 : ¬ 8 < s := by omega
    have HK8 : Hid (k ≤ 8) := hok.2.1
    clear hok
    obtain ⟨g5, g6⟩ | ⟨g5, g6⟩ | ⟨g5, g6⟩ : (k ≤ s ∧ k < s) ∨ (k ≤ s ∧ ¬ k < s) ∨ (¬ k ≤ s ∧ ¬ k < s) := by omega
    all_goals
      go_enter Try.func102, Try.ntmps102
      go_wp2
      clear g1 g2 g3 g4 g5 g6
      go_loopw [3, 23] (fun v i wr => ∃ j : Nat, j ≤ rs.length ∧ i = .int .i64 j ∧ (∃ (P : Option Addr) (pn pc : Nat) (pxs : List Int), v = .slice P pn pc ∧ Holds w P (nums pxs) ∧ pxs.length = pn ∧ ((j = 0 ∧ pxs = []) ∨ (0 < j ∧ pxs = (rowNums rs).getD (j - 1) []))) ∧ DgTo k (rowNums rs) j ∧ Whole wr w.heap.size 69 #[.int .i64 k, .slice A rs.length c, .int .i64 s] ∧ Below w.heap.size w wr) (fun _ i _ => rs.length - (intOf i).toNat)
      case atStart => exact ⟨0, Nat.zero_le _, rfl, ⟨none, 0, 0, [], rfl, .inl rfl, rfl, .inl ⟨rfl, rfl⟩⟩, DgTo.start _ _, h0.out, hb1.out⟩
      case round =>
        clear f0 f1 f2 h0 hb1
        obtain ⟨j, hj, rfl, ⟨P, pn, pc, pxs, rfl, hP, hpl, hpx⟩, hdt, h0, hb⟩ := hrel
        by_cases hlt : j < rs.length
        · obtain ⟨b, o, rfl, hbl, hcell, hrow, hrl, hrn⟩ := grid_row HG.out hlt
          replace hcell := (hb.cell (p := ⟨b, o + j, none⟩) hbl).trans hcell
          have HAT := Lib.hid (rows_at rs hlt)
          obtain ⟨f0, f1, f2⟩ := h0.cells3
          obtain ⟨R, hR⟩ : ∃ R, R = rs[j] := ⟨_, rfl⟩
          rw [← hR] at hcell hrow hrl hrn HAT
          have HD := Lib.hid hdt
          have H0 := Lib.hid h0
          have HB := Lib.hid hb
          have HJ : Hid (j < (rowNums rs).length) := by show _ < _; rw [HLS.out]; exact hlt
          obtain ⟨rA, rn, rc, rxs⟩ := R
          replace hcell : World.cell? wr ⟨b, o + j, none⟩ = some (.slice rA rn rc) := hcell
          replace hrn : rn ≤ 9223372036854775807 := hrn
          have HRL2 : Hid (rxs.length = rn) := hrl
          have HRW0 : Hid (Holds w rA (nums rxs)) := hrow
          have HRW2 : Hid (Holds wr rA (nums rxs)) := HRW0.out.below hb
          have HAT2 : Hid ((rowNums rs).getD j [] = rxs) := HAT.out
          have HP : Hid (Holds wr P (nums pxs)) := hP.below hb
          have HPL := Lib.hid hpl
          have HPX := Lib.hid hpx
          clear HAT hrow hrl hR hdt h0 hb hP hpl hpx
          cases hr : dgB k rxs
          · have HN : Hid (q = false) := by
              show _ = _
              rw [HQ.out]
              refine keepOk_no HJ.out fun h => ?_
              have h1 := h.1
              rw [HAT2.out] at h1
              rw [dgB_yes h1] at hr
              cases hr
            have HR := Lib.hid hr
            clear hr HQ
            go_wp2_with (go_at_call 140; refine (isDanger_any _ _ _ rxs k _ HRW2.out HRL2.out hrn).mono ?_; rintro e w' ⟨rfl, jj, rfl⟩; rw [HR.out])
            go_ret
            exact ⟨ret_of (by rw [HN.out]; rfl), below_draws HB.out jj⟩
          · have HDG : Hid (IsDg k rxs) := Classical.byContradiction fun h => by rw [dgB_no h] at hr; cases hr
            have HR := Lib.hid hr
            obtain rfl : rn = 2 := by have := HDG.out.1; have := HRL2.out; omega
            have HP2 : Hid (pxs = [] ∨ pxs.length = 2) := by
              rcases HPX.out with ⟨-, h⟩ | ⟨h1, h2⟩
              · exact .inl h
              · exact .inr (by rw [h2]; exact (HD.out (j - 1) (by omega)).1.1)
            clear hr
            by_cases hbf : pxs = [] ∨ BefD pxs rxs
            · have HST : Hid (DgTo k (rowNums rs) (j + 1)) := HD.out.next ⟨by rw [HAT2.out]; exact HDG.out, by
                rcases HPX.out with ⟨h, -⟩ | ⟨h1, h2⟩
                · exact .inl h
                · rw [HAT2.out, ← h2]
                  rcases hbf with h | h
                  · have h3 := (HD.out (j - 1) (by omega)).1.1
                    rw [← h2, h] at h3
                    cases h3
                  · exact .inr h⟩
              have HF := Lib.hid (cmpD_neg hbf)
              clear hbf
              go_wp2_with (first | (go_at_call 140; refine (isDanger_any _ _ _ rxs k _ HRW2.out HRL2.out hrn).mono ?_; rintro e w' ⟨rfl, jj, rfl⟩; rw [HR.out]) | (go_at_call 141; refine (compareD_any _ _ _ _ _ _ pxs rxs _ (by exact HP.out.below (below_draws (Below.refl _ _) jj)) (by exact HRW2.out.below (below_draws (Below.refl _ _) jj)) HPL.out HP2.out HRL2.out rfl).mono ?_; rintro e w' ⟨rfl, rfl⟩; rw [HF.out]))
              go_roundw
              case rel => exact ⟨j + 1, by omega, by go_num, ⟨rA, 2, rc, rxs, rfl, HRW0.out, HRL2.out, .inr ⟨by omega, by rw [show j + 1 - 1 = j by omega]; exact HAT2.out.symm⟩⟩, HST.out, H0.out.below (below_draws (Below.refl _ _) jj), below_draws HB.out jj⟩
              case measure => simp [intOf]; omega
            · have hbf1 : pxs ≠ [] := fun h => hbf (.inl h)
              have hbf2 : ¬ BefD pxs rxs := fun h => hbf (.inr h)
              have HN : Hid (q = false) := by
                show _ = _
                rw [HQ.out]
                refine keepOk_no HJ.out fun h => ?_
                rcases HPX.out with ⟨-, h1⟩ | ⟨h1, h2⟩
                · exact hbf1 h1
                · rcases h.2 with h3 | h3
                  · omega
                  · rw [HAT2.out, ← h2] at h3
                    exact hbf2 h3
              obtain ⟨r, hr⟩ : ∃ r, r = cmpD pxs rxs := ⟨_, rfl⟩
              have hr0 : 0 ≤ r := by rw [hr]; exact cmpD_pos hbf1 hbf2
              have HF : Hid (cmpD pxs rxs = r) := hr.symm
              have hdr : decide (0 ≤ r) = true := by simp only [decide_eq_true_eq]; exact hr0
              clear hbf hbf1 hbf2 hr HQ
              go_wp2_with (first | (go_at_call 140; refine (isDanger_any _ _ _ rxs k _ HRW2.out HRL2.out hrn).mono ?_; rintro e w' ⟨rfl, jj, rfl⟩; rw [HR.out]) | (go_at_call 141; refine (compareD_any _ _ _ _ _ _ pxs rxs _ (by exact HP.out.below (below_draws (Below.refl _ _) jj)) (by exact HRW2.out.below (below_draws (Below.refl _ _) jj)) HPL.out HP2.out HRL2.out rfl).mono ?_; rintro e w' ⟨rfl, rfl⟩; rw [HF.out]))
              go_ret
              exact ⟨ret_of (by rw [HN.out]; rfl), below_draws HB.out jj⟩
        · have HN : Hid (q = true) := by
            show _ = _
            rw [HQ.out]
            exact keepOk_yes HKS.out hdt (by rw [HLS.out]; omega)
          clear HQ
          go_wp2
          go_ret
          exact ⟨ret_of (by rw [HN.out]; rfl), hb⟩

theorem implIsKeep_on (k s : Int) (A : Option Addr) (n c : Nat) (rs : List RowV) (ls : List (List Int)) (w : World) (hA : Grid w A rs) (he : rowNums rs = ls) (hx : rs.length = n) (hn : n ≤ 1048576) :
    Calls Try.prog 102 #[.agg #[.int .i64 k, .slice A n c, .int .i64 s]] w fun e w' => e = .returned (.bool (keepOk k s ls)) ∧ Below w.heap.size w w' :=
  he ▸ isKeep_any k s A n c rs w hA hx hn
end Go.Proofs.Ytcikimjpjebflaa

namespace Go.Proofs.Ytcikimjpjebflaa
open Go.RowKit

/-- What stands over in the first and in the last bank: nothing where there is no keep. -/
noncomputable def startBits (k s : Int) (ds : List (List Int)) : List Bool := if keepOk k s ds then falses k.toNat else []
noncomputable def endBits (k s : Int) (ds : List (List Int)) : List Bool := if keepOk k s ds then trues k.toNat else []
theorem startBits_le (k s : Int) (ds : List (List Int)) : (startBits k s ds).length ≤ 1048576 := by
  rw [startBits]
  split
  · rename_i h
    have := (keepOk_iff.1 h).1
    rw [falses_len]
    omega
  · simp
theorem endBits_le (k s : Int) (ds : List (List Int)) : (endBits k s ds).length ≤ 1048576 := by
  rw [endBits]
  split
  · rename_i h
    have := (keepOk_iff.1 h).1
    rw [trues_len]
    omega
  · simp

end Go.Proofs.Ytcikimjpjebflaa

namespace Go.Proofs.Ytcikimjpjebflaa
open Go.RowKit

/-- Dangers of at most eight things. -/
def DgAll (ds : List (List Int)) : Prop := ∀ d ∈ ds, IsDg 8 d
theorem keep_all {k s : Int} {ds : List (List Int)} (h : keepOk k s ds = true) : DgAll ds := by
  intro d hd
  obtain ⟨j, hj, rfl⟩ := List.getElem_of_mem hd
  have h1 := dg_at h hj
  have h2 := (keepOk_iff.1 h).1
  exact ⟨h1.1, h1.2.1, h1.2.2.1, by have := h1.2.2.2; omega⟩

set_option maxHeartbeats 3200000 in
theorem leaves_any (A : Option Addr) (c : Nat) (d : List Int) (bs : List Bool) (t : Bool) (w : World) (hA : Holds w A (nums d)) (hd : IsDg 8 d) :
    Calls Try.prog 144 #[.agg (placeCells bs t), .slice A 2 c] w fun e w' => e = .returned (.bool (leftBy bs t d)) ∧ Below w.heap.size w w' := by
  obtain ⟨b, o, rfl, hb, a0, a1⟩ := two_at hA hd.1
  obtain ⟨-, h0, h1, h2⟩ := hd
  have HL : Hid (leftBy bs t d = ((bs.getD (d.getD 0 0).toNat false != t) && (bs.getD (d.getD 1 0).toNat false != t))) := rfl
  rw [HL.out]
  clear HL hA
  generalize d.getD 0 0 = x0 at *
  generalize d.getD 1 0 = x1 at *
  obtain ⟨i, rfl⟩ : ∃ i : Nat, x0 = i := ⟨x0.toNat, by omega⟩
  obtain ⟨j, rfl⟩ : ∃ j : Nat, x1 = j := ⟨x1.toNat, by omega⟩
  have hi8 : i < 8 := by omega
  have hj8 : j < 8 := by omega
  rw [Int.toNat_natCast, Int.toNat_natCast]
  have hp := Whole.fresh w 83 (placeCells bs t)
  have HB := Lib.hid (below1 w (.cells (placeCells bs t) 83))
  have ci := (hp.cell i).trans (show (placeCells bs t)[i]? = some (.bool (bs.getD i false)) by
    have : i = 0 ∨ i = 1 ∨ i = 2 ∨ i = 3 ∨ i = 4 ∨ i = 5 ∨ i = 6 ∨ i = 7 := by omega
    rcases this with rfl | rfl | rfl | rfl | rfl | rfl | rfl | rfl <;> rfl)
  have cj := (hp.cell j).trans (show (placeCells bs t)[j]? = some (.bool (bs.getD j false)) by
    have : j = 0 ∨ j = 1 ∨ j = 2 ∨ j = 3 ∨ j = 4 ∨ j = 5 ∨ j = 6 ∨ j = 7 := by omega
    rcases this with rfl | rfl | rfl | rfl | rfl | rfl | rfl | rfl <;> rfl)
  have c8 := (hp.cell 8).trans (show (placeCells bs t)[8]? = some (.bool t) from rfl)
  have ca := (World.cell?_alloc_lt w (.cells (placeCells bs t) 83) (⟨b, o, none⟩ : Addr) hb).trans a0
  have cb := (World.cell?_alloc_lt w (.cells (placeCells bs t) 83) (⟨b, o + 1, none⟩ : Addr) hb).trans a1
  have hii : (i : Int) < 8 := by omega
  have hjj : (j : Int) < 8 := by omega
  generalize bs.getD i false = u at *
  generalize bs.getD j false = v at *
  clear h0 h1 h2 hp a0 a1
  generalize placeCells bs t = cs at *
  cases u <;> cases v <;> cases t
  all_goals
    go_enter Try.func144, Try.ntmps144
    go_wp2
    go_quiet (fail)
    go_wp2
    go_ret
    exact ⟨rfl, below_draws HB.out _⟩

/-- What slices.IndexFunc hands back. -/
def FuncPost (p : List Int → Bool) (ls : List (List Int)) (w : World) (e : Ending) (w' : World) : Prop := ∃ r : Int, e = .returned (.int .i64 r) ∧ decide (0 ≤ r) = ls.any p ∧ Below w.heap.size w w'
def leavesV (bs : List Bool) (t : Bool) : Value := .func (.func 144) #[.agg (placeCells bs t)] #[]

set_option maxHeartbeats 3200000 in
theorem indexFn_any (A : Option Addr) (n c : Nat) (rs : List RowV) (bs : List Bool) (t : Bool) (w : World) (hA : Grid w A rs) (hx : rs.length = n) (hn : n ≤ 1048576) (hd : DgAll (rowNums rs)) :
    Calls Try.prog 167 #[.slice A n c, leavesV bs t] w (FuncPost (leftBy bs t) (rowNums rs) w) := by
  subst hx
  have HG := Lib.hid hA
  have HD := Lib.hid hd
  unfold leavesV
  clear hA hd
  go_enter Try.func167, Try.ntmps167
  go_wp2
  go_loopw [8] (fun i wr => ∃ j : Nat, j ≤ rs.length ∧ i = .int .i64 j ∧ (∀ x, x < j → leftBy bs t ((rowNums rs).getD x []) = false) ∧ Below w.heap.size w wr) (fun i _ => rs.length - (intOf i).toNat)
  case atStart => exact ⟨0, Nat.zero_le _, rfl, fun x h => by omega, Below.refl _ _⟩
  case round =>
    obtain ⟨j, hj, rfl, hs, hb⟩ := hrel
    have HS := Lib.hid hs
    have HB := Lib.hid hb
    by_cases hlt : j < rs.length
    · obtain ⟨b, o, rfl, hbl, hcell, hrow, hrl, hrn⟩ := grid_row HG.out hlt
      replace hcell := (hb.cell (p := ⟨b, o + j, none⟩) hbl).trans hcell
      have HAT := Lib.hid (rows_at rs hlt)
      have HDG : Hid (IsDg 8 rs[j].xs) := HD.out _ (by rw [← HAT.out, List.getD_eq_getElem?_getD, List.getElem?_eq_getElem (by rw [rowNums_len]; exact hlt)]; exact List.getElem_mem _)
      obtain ⟨R, hR⟩ : ∃ R, R = rs[j] := ⟨_, rfl⟩
      rw [← hR] at hcell hrow hrl hrn HAT HDG
      obtain ⟨rA, rn, rc, rxs⟩ := R
      replace hcell : World.cell? wr ⟨b, o + j, none⟩ = some (.slice rA rn rc) := hcell
      obtain rfl : rn = 2 := by have h1 : rxs.length = rn := hrl; have h2 : rxs.length = 2 := HDG.out.1; omega
      have HRW : Hid (Holds wr rA (nums rxs)) := Holds.below (w := w) hrow hb
      have HAT2 : Hid ((rowNums rs).getD j [] = rxs) := HAT.out
      have HDG2 : Hid (IsDg 8 rxs) := HDG.out
      clear hs hb hrow hrl hrn hR HAT HDG
      cases hl : leftBy bs t rxs
      · have HL := Lib.hid hl
        clear hl
        go_wp2_with fail
        refine (leaves_any rA rc rxs bs t _ HRW.out HDG2.out).mono ?_
        rintro e w1 ⟨rfl, hb1⟩
        rw [HL.out]
        have HB1 := Lib.hid (below_then HB.out hb1 HB.out.size)
        clear hb1
        go_wp2
        go_roundw
        case rel => exact ⟨j + 1, by omega, by go_num, fun x hx => by
          rcases Nat.lt_succ_iff_lt_or_eq.1 hx with h | rfl
          · exact HS.out x h
          · rw [HAT2.out]; exact HL.out, HB1.out⟩
        case measure => simp [intOf]; omega
      · have HL := Lib.hid hl
        have HAN : Hid ((rowNums rs).any (leftBy bs t) = true) := by
          show _ = _
          rw [List.any_eq_true]
          refine ⟨rxs, ?_, HL.out⟩
          rw [← HAT2.out, List.getD_eq_getElem?_getD, List.getElem?_eq_getElem (by rw [rowNums_len]; exact hlt)]
          exact List.getElem_mem _
        clear hl
        go_wp2_with fail
        refine (leaves_any rA rc rxs bs t _ HRW.out HDG2.out).mono ?_
        rintro e w1 ⟨rfl, hb1⟩
        rw [HL.out]
        have HB1 := Lib.hid (below_then HB.out hb1 HB.out.size)
        clear hb1
        go_wp2
        go_ret
        exact ⟨(j : Int), rfl, by rw [HAN.out]; simp, HB1.out⟩
    · have HAN : Hid ((rowNums rs).any (leftBy bs t) = false) := by
        show _ = _
        rw [List.any_eq_false]
        intro x hx
        obtain ⟨i, hi, rfl⟩ := List.getElem_of_mem hx
        have h := HS.out i (by rw [rowNums_len] at hi; omega)
        rw [List.getD_eq_getElem?_getD, List.getElem?_eq_getElem hi] at h
        simpa using h
      clear hs hb
      go_wp2
      go_ret
      exact ⟨-1, rfl, by rw [HAN.out]; rfl, HB.out⟩

set_option maxHeartbeats 800000 in
theorem containsFn_any (A : Option Addr) (n c : Nat) (rs : List RowV) (bs : List Bool) (t : Bool) (w : World) (hA : Grid w A rs) (hx : rs.length = n) (hn : n ≤ 1048576) (hd : DgAll (rowNums rs)) :
    Calls Try.prog 143 #[.slice A n c, leavesV bs t] w fun e w' => e = .returned (.bool ((rowNums rs).any (leftBy bs t))) ∧ Below w.heap.size w w' := by
  have HX := Lib.hid hx
  clear hx
  go_enter Try.func143, Try.ntmps143
  go_wp2_with fail
  refine (indexFn_any A n c rs bs t _ hA HX.out hn hd).mono ?_
  rintro e w1 ⟨r, rfl, hr, hb⟩
  have HR := Lib.hid hr
  clear hr
  go_wp2
  go_ret
  exact ⟨ret_of (by rw [← HR.out]; rfl), hb⟩

set_option maxHeartbeats 1600000 in
theorem isSafePlace_any (k s : Int) (A : Option Addr) (n c : Nat) (rs : List RowV) (bs : List Bool) (t : Bool) (w : World) (hA : Grid w A rs) (hx : rs.length = n) (hn : n ≤ 1048576) (hd : DgAll (rowNums rs)) :
    Calls Try.prog 104 #[.agg #[.int .i64 k, .slice A n c, .int .i64 s], .agg (placeCells bs t)] w fun e w' => e = .returned (.bool (!(rowNums rs).any (leftBy bs t))) ∧ Below w.heap.size w w' := by
  have HX := Lib.hid hx
  clear hx
  have h0 := (Whole.fresh w 69 #[.int .i64 k, .slice A n c, .int .i64 s]).alloc (.cells (placeCells bs t) 83)
  have h1 := Whole.fresh (w.alloc (.cells #[.int .i64 k, .slice A n c, .int .i64 s] 69)) 83 (placeCells bs t)
  rw [World.size_alloc] at h1
  have hA2 := (hA.below (below2 w (.cells #[.int .i64 k, .slice A n c, .int .i64 s] 69) (.cells (placeCells bs t) 83)))
  have HB := Lib.hid (below2 w (.cells #[.int .i64 k, .slice A n c, .int .i64 s] 69) (.cells (placeCells bs t) 83))
  obtain ⟨f0, f1, f2⟩ := h0.cells3
  go_enter Try.func104, Try.ntmps104
  go_wp2_with (first | (refine wpList_load_row rfl 83 (.tmp 3) rfl (w.heap.size + 1) rfl 83 (placeCells bs t) (0, 0) _ h1 Try.underlying83 rfl size_place ?_) | (go_at_call 143; refine (containsFn_any A n c rs bs t _ hA2 HX.out hn hd).mono ?_; rintro e w1 ⟨rfl, hb⟩))
  go_ret
  exact ⟨rfl, below_then HB.out hb (by simp; omega)⟩
end Go.Proofs.Ytcikimjpjebflaa

namespace Go.Proofs.Ytcikimjpjebflaa
open Go.RowKit

/-- What a call hands back that makes a list of lists and tells whether it did. -/
def BackPost (ls : List (List Int)) (ok : Bool) (w : World) (e : Ending) (w' : World) : Prop :=
  ∃ (A : Option Addr) (n c : Nat) (rs : List RowV), e = .returned (.tuple #[.slice A n c, .bool ok]) ∧ rowNums rs = ls ∧ rs.length = n ∧ FreeGrid w' w.heap.size w'.heap.size A rs ∧ Below w.heap.size w w'
theorem BackPost.no {w w' : World} (h : Below w.heap.size w w') : BackPost [] false w (.returned (.tuple #[.slice none 0 0, .bool false])) w' :=
  ⟨none, 0, 0, [], rfl, rfl, rfl, (Heads.nil w' w.heap.size).free, h⟩
theorem part_lens {w : World} {A : Option Addr} {rs : List RowV} (h : Grid w A rs) : part rs rs.length = ((rowNums rs).map List.length).sum := by
  rw [part_sum]
  have : ∀ ts : List RowV, (∀ r ∈ ts, r.xs.length = r.n) → ts.map RowV.n = (rowNums ts).map List.length := by
    intro ts ht
    simp only [rowNums, List.map_map]
    exact List.map_congr_left fun r hr => (ht r hr).symm
  rw [this rs fun r hr => (h.2 r hr).2.1]
theorem sum_lens {ls : List (List Int)} {k : Nat} (h : ∀ l ∈ ls, l.length ≤ k) : (ls.map List.length).sum ≤ k * ls.length := by
  induction ls with
  | nil => simp
  | cons l ls ih =>
    have h1 := h l (by simp)
    have h2 := ih fun x hx => h x (List.mem_cons_of_mem _ hx)
    rw [List.map_cons, List.sum_cons, List.length_cons, Nat.mul_succ]
    omega
end Go.Proofs.Ytcikimjpjebflaa

namespace Go.Proofs.Ytcikimjpjebflaa
open Go.RowKit

theorem below_undrewN {w w' : World} {j : Nat} (h : Below (w.drewN j).heap.size (w.drewN j) w') : Below w.heap.size w w' :=
  below_then (below_draws (Below.refl w.heap.size w) j) h (below_draws (Below.refl w.heap.size w) j).size
theorem whole_grown {w w' : World} {g : Nat} {ty : TypeId} {cs : Array Value} {row : Option Nat} (h : Whole w g ty cs) (hg : w.grownBy w' row) (hne : row ≠ some g) : Whole w' g ty cs := (hg.block g h.lt (fun e => hne e.symm)).trans h
theorem now_yes {bs : List Bool} {t : Bool} {ds : List (List Int)} {j : Nat} {d : List Int} (hj : j < ds.length) (hd : ds.getD j [] = d) (h : leftBy bs t d = true) : nowOf bs t (ds.take (j + 1)) = nowOf bs t (ds.take j) ++ [d] := by
  rw [List.getD_eq_getElem?_getD, List.getElem?_eq_getElem hj] at hd
  simp only [Option.getD_some] at hd
  rw [List.take_succ_eq_append_getElem hj, nowOf, List.filter_append, hd]
  simp [nowOf, h]
theorem now_no {bs : List Bool} {t : Bool} {ds : List (List Int)} {j : Nat} {d : List Int} (hj : j < ds.length) (hd : ds.getD j [] = d) (h : leftBy bs t d = false) : nowOf bs t (ds.take (j + 1)) = nowOf bs t (ds.take j) := by
  rw [List.getD_eq_getElem?_getD, List.getElem?_eq_getElem hj] at hd
  simp only [Option.getD_some] at hd
  rw [List.take_succ_eq_append_getElem hj, nowOf, List.filter_append, hd]
  simp [nowOf, h]
theorem now_some {bs : List Bool} {t : Bool} {ds : List (List Int)} : ds.any (leftBy bs t) = decide (0 < (nowOf bs t ds).length) := by
  by_cases h : ds.any (leftBy bs t) = true
  · rw [h]
    obtain ⟨d, hd, hl⟩ := List.any_eq_true.1 h
    have : d ∈ nowOf bs t ds := List.mem_filter.2 ⟨hd, hl⟩
    have := List.length_pos_of_mem this
    simp; omega
  · have h' : ds.any (leftBy bs t) = false := by simpa using h
    rw [h', nowOf, List.filter_eq_nil_iff.2 (by rw [List.any_eq_false] at h'; simpa using h')]
    rfl


/-- What a call hands back that makes a list of lists. -/
def GridRes (ls : List (List Int)) (lo : Nat) (w : World) (e : Ending) (w' : World) : Prop :=
  ∃ (A : Option Addr) (c : Nat) (rs : List RowV), e = .returned (.slice A rs.length c) ∧ rowNums rs = ls ∧ Heads w' lo A c rs ∧ Below w.heap.size w w'

set_option maxHeartbeats 6400000 in
set_option maxRecDepth 100000 in
theorem keNow_any (k s : Int) (A B : Option Addr) (m c q z : Nat) (rs : List RowV) (bs : List Bool) (t : Bool) (w : World) (hA : Grid w A rs) (hB : Holds w B (bits bs)) (hx : rs.length = m) (hm : m ≤ 1048576) (hy : bs.length = q) (hq : q ≤ 1048576) (hd : ∀ d ∈ rowNums rs, IsDg (q : Int) d) :
    Calls Try.prog 106 #[.agg #[.int .i64 k, .slice A m c, .int .i64 s], .agg #[.slice B q z, .bool t]] w (GridRes (nowOf bs t (rowNums rs)) (w.heap.size + 1 + 1) w) := by
  obtain ⟨i0, hi, hz0, hz1, hz2⟩ := info_parts info_row
  have HI := Lib.hid hi
  have HZ0 := Lib.hid hz0
  have HZ1 := Lib.hid hz1
  have HZ2 := Lib.hid hz2
  clear hi hz0 hz1 hz2
  subst hx
  have HY := Lib.hid hy
  have HD := Lib.hid hd
  have HLS := Lib.hid (rowNums_len rs)
  have h0 := (Whole.fresh w 69 #[.int .i64 k, .slice A rs.length c, .int .i64 s]).alloc (.cells #[.slice B q z, .bool t] 129)
  have h1 := Whole.fresh (w.alloc (.cells #[.int .i64 k, .slice A rs.length c, .int .i64 s] 69)) 129 #[.slice B q z, .bool t]
  rw [World.size_alloc] at h1
  have hbw := below2 w (.cells #[.int .i64 k, .slice A rs.length c, .int .i64 s] 69) (.cells #[.slice B q z, .bool t] 129)
  have hA2 := hA.below hbw
  have hB2 := hB.below hbw

  have HG := Lib.hid hA
  have HBT := Lib.hid hB
  obtain ⟨f0, f1, f2⟩ := h0.cells3
  clear hA hB hA2 hB2 hy hd
  go_enter Try.func106, Try.ntmps106
  go_wp2
  go_loopw [5, 11] (fun v i wr => ∃ (j : Nat) (E : Option Addr) (d : Nat) (acc : List RowV), j ≤ rs.length ∧ i = .int .i64 j ∧ v = .slice E acc.length d ∧ rowNums acc = nowOf bs t ((rowNums rs).take j) ∧ Heads wr (w.heap.size + 1 + 1) E d acc ∧ Whole wr w.heap.size 69 #[.int .i64 k, .slice A rs.length c, .int .i64 s] ∧ Whole wr (w.heap.size + 1) 129 #[.slice B q z, .bool t] ∧ Below w.heap.size w wr) (fun _ i _ => rs.length - (intOf i).toNat)
  case atStart => exact ⟨0, none, 0, [], Nat.zero_le _, rfl, rfl, by simp [nowOf, rowNums], Heads.nil _ _, h0, h1, hbw⟩
  case round =>
    clear f0 f1 f2 h0 h1 hbw
    obtain ⟨j, E, d, acc, hj, rfl, rfl, hra, hh, h0, h1, hb⟩ := hrel
    have hacc : acc.length ≤ 1048576 := by have h2 := congrArg List.length hra; rw [rowNums_len] at h2; have h3 := nowOf_len bs t ((rowNums rs).take j); rw [List.length_take] at h3; omega
    have HRA := Lib.hid hra
    have HH := Lib.hid hh
    have HB := Lib.hid hb
    have H0 := Lib.hid h0
    have H1 := Lib.hid h1
    by_cases hlt : j < rs.length
    · have hw0 := h0.lt
      have hw1 := h1.lt
      obtain ⟨b, o, rfl, hbl, hcell, hrow, hrl, hrn⟩ := grid_row HG.out hlt
      replace hcell := (hb.cell (p := ⟨b, o + j, none⟩) hbl).trans hcell
      have HAT := Lib.hid (rows_at rs hlt)
      have HJ : Hid (j < (rowNums rs).length) := by show _ < _; rw [HLS.out]; exact hlt
      have HDG : Hid (IsDg (q : Int) rs[j].xs) := HD.out _ (by rw [← HAT.out, List.getD_eq_getElem?_getD, List.getElem?_eq_getElem HJ.out]; exact List.getElem_mem _)
      obtain ⟨R, hR⟩ : ∃ R, R = rs[j] := ⟨_, rfl⟩
      rw [← hR] at hcell hrow hrl hrn HAT HDG
      obtain ⟨rA, rn, rc, rxs⟩ := R
      replace hcell : World.cell? wr ⟨b, o + j, none⟩ = some (.slice rA rn rc) := hcell
      obtain rfl : rn = 2 := by have h1 : rxs.length = rn := hrl; have h2 : rxs.length = 2 := HDG.out.1; omega
      have HRW : Hid (Holds wr rA (nums rxs)) := Holds.below (w := w) hrow hb
      have HRL : Hid (rxs.length = 2) := hrl
      have HAT2 : Hid ((rowNums rs).getD j [] = rxs) := HAT.out
      have HDG2 : Hid (IsDg (q : Int) rxs) := HDG.out
      obtain ⟨b2, o2, rfl, hbl2, a0, a1⟩ := two_at HRW.out HRL.out
      obtain ⟨f0, f1, f2⟩ := h0.cells3
      obtain ⟨g0, g1, -, -⟩ := h1.two
      have HYES := fun h => Lib.hid (now_yes (bs := bs) (t := t) HJ.out HAT2.out h)
      have HNO := fun h => Lib.hid (now_no (bs := bs) (t := t) HJ.out HAT2.out h)
      have HLB : Hid (leftBy bs t rxs = ((bs.getD (rxs.getD 0 0).toNat false != t) && (bs.getD (rxs.getD 1 0).toNat false != t))) := rfl
      obtain ⟨x0, hx0⟩ : ∃ x : Nat, rxs.getD 0 0 = x := ⟨(rxs.getD 0 0).toNat, by have := HDG2.out.2.1; omega⟩
      obtain ⟨x1, hx1⟩ : ∃ x : Nat, rxs.getD 1 0 = x := ⟨(rxs.getD 1 0).toNat, by have := HDG2.out.2.1; have := HDG2.out.2.2.1; omega⟩
      have hxq : x1 < q := by have := HDG2.out.2.2.2; omega
      have hxx : x0 < x1 := by have := HDG2.out.2.2.1; omega
      rw [hx0, hx1, Int.toNat_natCast, Int.toNat_natCast] at HLB
      rw [hx0] at a0
      rw [hx1] at a1
      have hx0q : (x0 : Int) < (q : Int) := by omega
      have hx1q : (x1 : Int) < (q : Int) := by omega
      obtain ⟨b3, o3, rfl, hbl3, c0⟩ := (HBT.out.below hb).look (k := x0) (by rw [bits_len, HY.out]; omega)
      obtain ⟨b4, o4, hB4, hbl4, c1⟩ := (HBT.out.below hb).look (k := x1) (by rw [bits_len, HY.out]; omega)
      simp only [Option.some.injEq, Addr.mk.injEq] at hB4
      obtain ⟨rfl, rfl, -⟩ := hB4
      have hu : bs[x0]? = some (bs.getD x0 false) := by rw [List.getD_eq_getElem?_getD, List.getElem?_eq_getElem (by have := HY.out; omega)]; rfl
      have hv : bs[x1]? = some (bs.getD x1 false) := by rw [List.getD_eq_getElem?_getD, List.getElem?_eq_getElem (by have := HY.out; omega)]; rfl
      have c0' : World.cell? wr ⟨b3, o3 + x0, none⟩ = some (.bool (bs.getD x0 false)) := by
        rw [c0]
        simp [bits, List.getD_eq_getElem?_getD, List.getElem?_eq_getElem (show x0 < bs.length by have := HY.out; omega)]
      have c1' : World.cell? wr ⟨b3, o3 + x1, none⟩ = some (.bool (bs.getD x1 false)) := by
        rw [c1]
        simp [bits, List.getD_eq_getElem?_getD, List.getElem?_eq_getElem (show x1 < bs.length by have := HY.out; omega)]
      clear c0 c1 hu hv hra hh hb h0 h1 hrow hrl hrn hR HAT hx0 hx1 HD HJ
      generalize bs.getD x0 false = u at *
      generalize bs.getD x1 false = v at *
      cases hl : leftBy bs t rxs
      · have HN := HNO hl
        rw [HLB.out] at hl
        clear HYES HNO HLB
        cases u <;> cases v <;> cases t
        all_goals first
          | (exfalso; revert hl; decide)
          | (clear hl
             go_wp2
             go_quiet (fail)
             go_wp2
             go_roundw
             case rel => exact ⟨j + 1, E, d, acc, by omega, by go_num, rfl, by rw [HN.out]; exact HRA.out, HH.out.below (below_draws (Below.refl _ _) _), H0.out.below (below_draws (Below.refl _ _) _), H1.out.below (below_draws (Below.refl _ _) _), below_draws HB.out _⟩
             case measure => simp [intOf]; omega)
      · have HN := HYES hl
        rw [HLB.out] at hl
        clear HYES HNO HLB
        have hbs : w.heap.size + 1 + 1 ≤ wr.heap.size := by omega
        cases u <;> cases v <;> cases t
        all_goals first
          | (exfalso; revert hl; decide)
          | (clear hl
             go_wp2
             go_quiet (fail)
             go_wp2_with fail
             refine (l1Own_any _ 2 rc rxs _ (by exact HRW.out.below (below_draws (Below.refl _ _) _)) HRL.out (by omega) (fun h => by cases h)).mono ?_
             rintro e w3 ⟨A2, q2, rfl, hown2, hb2⟩
             replace hb2 := below_undrewN hb2
             rw [HRL.out] at hown2 ⊢
             have hbs2 : wr.heap.size ≤ w3.heap.size := hb2.size
             have HOWN := Lib.hid ((HH.out.below hb2).alloc (.cells #[.slice A2 2 q2] 22)).1
             have HF := Lib.hid (Fresh.of_own (lo := wr.heap.size) hown2 (Nat.le_refl _))
             have HB2 := Lib.hid hb2
             have HMAX := Lib.hid (show acc.length + 1 ≤ maxLen by unfold maxLen; omega)
             have HBYT := Lib.hid (show (acc.length + 1) * 24 ≤ 140737488355328 by omega)
             have HBASE := Lib.hid (show w.heap.size + 1 + 1 ≤ (w3.alloc (.cells #[.slice A2 2 q2] 22)).heap.size by simp; omega)
             clear hown2 hb2 hcell a0 a1 f0 f1 f2 g0 g1 c0' c1'
             go_wp2_with (at_builtin; refine wpList_append_lies _ rfl (.tmp 37) (.tmp 40) 41 rfl (w.heap.size + 1 + 1) 22 i0 (.slice none 0 0) 1 24 Try.underlying41 HI.out HZ0.out HZ1.out HZ2.out rfl (by decide) (.slice E acc.length d) acc.length (rowVals acc) rfl HOWN.out ⟨w3.heap.size, 0, none⟩ 1 1 [.slice A2 2 q2] rfl rfl (cell_one_new _ _ _) (by simp [Value.oneCell']) (by decide) HMAX.out HBYT.out HBASE.out (w3.heap.size + 1) (by simp) ?_; intro g cap w4 hown4 hg4 hat hlt4)
             obtain ⟨A3, q3, hv3, hf3⟩ := HF.out
             simp only [Value.slice.injEq, true_and] at hv3
             obtain ⟨rfl, rfl⟩ := hv3
             have HP2 := Lib.hid (Heads.push (r := ⟨A2, 2, q2, rxs⟩) HH.out hbs HB2.out hf3 HRL.out (by show 2 ≤ _; omega) hown4 hg4 hat)
             have HBN := Lib.hid (((below_then HB.out HB2.out HB.out.size).alloc (by omega) (.cells #[.slice A2 2 q2] 22)).grown hg4 (by have := HBASE.out; omega) (fun kk hkk => by have := (HOWN.out.lt kk hkk).1; omega))
             have HH0 := Lib.hid (whole_grown ((H0.out.below HB2.out).alloc (.cells #[.slice A2 2 q2] 22)) hg4 (fun hkk => by have := (HOWN.out.lt _ hkk).1; omega))
             have HH1 := Lib.hid (whole_grown ((H1.out.below HB2.out).alloc (.cells #[.slice A2 2 q2] 22)) hg4 (fun hkk => by have := (HOWN.out.lt _ hkk).1; omega))
             clear hown4 hg4 hat hlt4 hf3
             go_roundw
             case rel => exact ⟨j + 1, some ⟨g, 0, none⟩, cap, acc ++ [⟨A2, 2, q2, rxs⟩], by omega, by go_num, by simp, by rw [HN.out, show rowNums (acc ++ [⟨A2, 2, q2, rxs⟩]) = rowNums acc ++ [rxs] by simp [rowNums], HRA.out], HP2.out, HH0.out, HH1.out, HBN.out⟩
             case measure => simp [intOf]; omega)
    · have hjn : j = rs.length := by omega
      have HR2 : Hid (rowNums acc = nowOf bs t (rowNums rs)) := by
        show _ = _
        rw [HRA.out, List.take_of_length_le (by rw [HLS.out]; omega)]
      clear hra hh h0 h1 HRA
      go_wp2
      go_ret
      exact ⟨E, d, acc, rfl, HR2.out, HH.out, HB.out⟩

end Go.Proofs.Ytcikimjpjebflaa

namespace Go.Proofs.Ytcikimjpjebflaa

/-- A list of truth values behind a number, as digits. -/
def num (bs : List Bool) (a : Nat) : Nat := bs.foldl (fun n b => 2 * n + b.toNat) a
theorem num_snoc (bs : List Bool) (b : Bool) (a : Nat) : num (bs ++ [b]) a = 2 * num bs a + b.toNat := by simp [num, List.foldl_append]
theorem num_cons (bs : List Bool) (b : Bool) (a : Nat) : num (b :: bs) a = num bs (2 * a + b.toNat) := rfl
theorem num_parts (bs : List Bool) : ∀ a, ∃ r, num bs a = a * 2 ^ bs.length + r ∧ r < 2 ^ bs.length := by
  induction bs with
  | nil => exact fun a => ⟨0, by simp [num], by simp⟩
  | cons b bs ih =>
    intro a
    obtain ⟨r, h1, h2⟩ := ih (2 * a + b.toNat)
    refine ⟨b.toNat * 2 ^ bs.length + r, ?_, ?_⟩
    · rw [num_cons, h1, List.length_cons, Nat.pow_succ, Nat.add_mul, Nat.mul_comm (2 ^ bs.length) 2, ← Nat.mul_assoc, Nat.mul_comm a 2, Nat.add_assoc]
    · rw [List.length_cons, Nat.pow_succ]
      cases b
      · simp; omega
      · simp; omega
theorem num_head (bs : List Bool) (a : Nat) : num bs a / 2 ^ bs.length = a := by
  obtain ⟨r, h1, h2⟩ := num_parts bs a
  rw [h1, Nat.mul_comm, Nat.mul_add_div (Nat.two_pow_pos _), Nat.div_eq_of_lt h2, Nat.add_zero]
theorem num_lt (bs : List Bool) (b : Bool) : num bs b.toNat < 2 ^ (bs.length + 1) := by
  obtain ⟨r, h1, h2⟩ := num_parts bs b.toNat
  rw [h1, Nat.pow_succ]
  cases b
  · simp; omega
  · simp; omega
/-- The digit of a person. -/
theorem num_digit (bs : List Bool) : ∀ (a k : Nat) (h : k < bs.length), num bs a / 2 ^ (bs.length - 1 - k) % 2 = bs[k].toNat := by
  induction bs with
  | nil => intro a k h; simp at h
  | cons b bs ih =>
    intro a k h
    rw [num_cons]
    cases k with
    | zero =>
      have : (b :: bs).length - 1 - 0 = bs.length := by simp
      rw [this, num_head]
      cases b <;> simp <;> omega
    | succ k =>
      have hk : k < bs.length := by simpa using h
      have : (b :: bs).length - 1 - (k + 1) = bs.length - 1 - k := by simp; omega
      rw [this, ih _ k hk]
      simp
/-- The digits of a number, n of them. -/
def digits (n i : Nat) : List Bool := (List.range n).map fun k => decide (i / 2 ^ (n - 1 - k) % 2 = 1)
theorem digits_len (n i : Nat) : (digits n i).length = n := by simp [digits]
theorem digits_num (bs : List Bool) (a : Nat) : digits bs.length (num bs a) = bs := by
  refine List.ext_getElem (digits_len _ _) fun k h1 h2 => ?_
  simp only [digits, List.getElem_map, List.getElem_range]
  rw [num_digit bs a k h2]
  cases bs[k] <;> rfl
theorem digits_succ (n i : Nat) : digits (n + 1) i = digits n (i / 2) ++ [decide (i % 2 = 1)] := by
  rw [digits, List.range_succ, List.map_append, digits]
  congr 1
  · refine List.map_congr_left fun k hk => ?_
    have hk := List.mem_range.1 hk
    rw [Nat.div_div_eq_div_mul, show n + 1 - 1 - k = n - 1 - k + 1 by omega, Nat.pow_succ, Nat.mul_comm (2 ^ (n - 1 - k)) 2]
  · simp
theorem num_digits : ∀ (n i : Nat), num (digits n i) (i / 2 ^ n) = i := by
  intro n
  induction n with
  | zero => intro i; simp [digits, num]
  | succ n ih =>
    intro i
    rw [digits_succ, num_snoc, show i / 2 ^ (n + 1) = i / 2 / 2 ^ n by rw [Nat.pow_succ, Nat.mul_comm, Nat.div_div_eq_div_mul], ih (i / 2)]
    rcases Nat.mod_two_eq_zero_or_one i with h | h <;> simp [h] <;> omega
end Go.Proofs.Ytcikimjpjebflaa

namespace Go.Proofs.Ytcikimjpjebflaa
open Go.RowKit

/-- The torch in a state's number. -/
def topBit (n x : Nat) : Bool := x / 2 ^ n == 1
/-- Behind the making of the state: its block and its list's. -/
def SeMade (n : Nat) (tb : Bool) (w : World) (v : Value) (wx : World) : Prop :=
  ∃ gs gb : Nat, v = .pointer (some ⟨gb, 0, none⟩) ∧ gs ≠ gb ∧ w.heap.size + 1 ≤ gs ∧ w.heap.size + 1 ≤ gb ∧ gs < wx.heap.size ∧
    Whole wx w.heap.size 37 #[.slice none 0 0, .bool false] ∧ Whole wx gb 37 #[.slice (some ⟨gs, 0, none⟩) n n, .bool tb] ∧ Whole wx gs 4 (bits (falses n)).toArray ∧ Below w.heap.size w wx

theorem top_int (n x : Nat) : ((x : Int) / 2 ^ n == 1) = topBit n x := by
  have h : (x : Int) / 2 ^ n = ((x / 2 ^ n : Nat) : Int) := by norm_cast
  rw [h, topBit]
  by_cases h : x / 2 ^ n = 1
  · simp [h]
  · have : ((x / 2 ^ n : Nat) : Int) ≠ 1 := by omega
    rw [beq_eq_false_iff_ne.2 this, beq_eq_false_iff_ne.2 h]
theorem digit_int (n x j : Nat) (hx : x < 1048576) (hj : j < n) : (Go.bits BinOp.and IntKind.i64 ((x : Int) / 2 ^ (n - 1 - j)) 1 == 1) = (digits n x)[j]'(by rw [digits_len]; exact hj) := by
  have h1 : x / 2 ^ (n - 1 - j) ≤ x := Nat.div_le_self _ _
  rw [shr_nat, show (1 : Int) = ((1 : Nat) : Int) from rfl, bits_and_nat _ 1 (by omega) (by omega), Nat.and_one_is_mod]
  simp only [digits, List.getElem_map, List.getElem_range]
  generalize x / 2 ^ (n - 1 - j) = y
  by_cases h : y % 2 = 1
  · simp [h]
  · have : y % 2 = 0 := by omega
    simp [this]
theorem se_ab (n : Nat) (tb : Bool) (w : World) : SeMade n tb w (.pointer (some ⟨w.heap.size + 1 + 1, 0, none⟩)) (((w.alloc (.cells #[.slice none 0 0, .bool false] 37)).alloc (.cells (bits (falses n)).toArray 4)).alloc (.cells #[.slice (some ⟨w.heap.size + 1, 0, none⟩) n n, .bool tb] 37)).drew := by
  refine ⟨w.heap.size + 1, w.heap.size + 1 + 1, rfl, by omega, Nat.le_refl _, by omega, by simp [World.drew], ?_, ?_, ?_, (below3 w _ _ _).drew⟩
  · exact (((Whole.fresh w _ _).alloc _).alloc _).drew
  · have h := Whole.fresh ((w.alloc (.cells #[.slice none 0 0, .bool false] 37)).alloc (.cells (bits (falses n)).toArray 4)) 37 #[.slice (some ⟨w.heap.size + 1, 0, none⟩) n n, .bool tb]
    simp only [World.size_alloc] at h
    exact h.drew
  · have h := (Whole.fresh (w.alloc (.cells #[.slice none 0 0, .bool false] 37)) 4 (bits (falses n)).toArray).alloc (.cells #[.slice (some ⟨w.heap.size + 1, 0, none⟩) n n, .bool tb] 37)
    simp only [World.size_alloc] at h
    exact h.drew
theorem se_ba (n : Nat) (tb : Bool) (w : World) : SeMade n tb w (.pointer (some ⟨w.heap.size + 1, 0, none⟩)) (((w.alloc (.cells #[.slice none 0 0, .bool false] 37)).alloc (.cells #[.slice (some ⟨w.heap.size + 1 + 1, 0, none⟩) n n, .bool tb] 37)).alloc (.cells (bits (falses n)).toArray 4)).drew := by
  refine ⟨w.heap.size + 1 + 1, w.heap.size + 1, rfl, by omega, by omega, Nat.le_refl _, by simp [World.drew], ?_, ?_, ?_, (below3 w _ _ _).drew⟩
  · exact (((Whole.fresh w _ _).alloc _).alloc _).drew
  · have h := (Whole.fresh (w.alloc (.cells #[.slice none 0 0, .bool false] 37)) 37 #[.slice (some ⟨w.heap.size + 1 + 1, 0, none⟩) n n, .bool tb]).alloc (.cells (bits (falses n)).toArray 4)
    simp only [World.size_alloc] at h
    exact h.drew
  · have h := Whole.fresh ((w.alloc (.cells #[.slice none 0 0, .bool false] 37)).alloc (.cells #[.slice (some ⟨w.heap.size + 1 + 1, 0, none⟩) n n, .bool tb] 37)) 4 (bits (falses n)).toArray
    simp only [World.size_alloc] at h
    exact h.drew

set_option maxHeartbeats 6400000 in
set_option maxRecDepth 100000 in
set_option linter.unusedSimpArgs false in
theorem seState_own (n x : Nat) (w : World) (hn : n ≤ 8) (hx : x < 1048576) :
    Calls Try.prog 87 #[.int .i64 x, .int .i64 n] w (fun e w' => ∃ (E : Option Addr) (r : Nat), e = .returned (.agg #[.slice E n r, .bool (topBit n x)]) ∧ Fresh w' w.heap.size w'.heap.size 4 E (bits (digits n x)) ∧ Below w.heap.size w w') := by
  obtain ⟨i0, hi, hz0, hz1, hz2⟩ := info_parts info_bool
  have hmk : ∀ W : World, (Instr.makeSlice 32 (.int .i64 (n : Int)) (.int .i64 (n : Int))).run Try.prog W = .ok (.slice (some ⟨W.heap.size, 0, none⟩) n n) (W.alloc (.cells (bits (falses n)).toArray 4)) := by
    intro W
    have h := run_make (P := Try.prog) W 32 4 i0 _ Try.underlying32 hi hz0 .i64 .i64 n n (by omega) (by omega) (by rw [hz2]; omega) (by omega)
    simp only [Int.toNat_natCast, hz1, made_falses] at h
    rw [h]
    rfl
  clear hi hz0 hz1 hz2
  have htb := top_int n x
  generalize topBit n x = tb at htb ⊢
  go_enter Try.func87, Try.ntmps87
  go_upto_region 1 with fail
  go_cut [5] (fun v wx => SeMade n tb w v wx)
  case first =>
    go_region_held3 (fun w' => True) (go_keep) (fail)
    all_goals (go_wp2_with fail; go_meet)
    all_goals first | exact se_ab n tb w | exact se_ba n tb w
  obtain ⟨gs, gb, rfl, hne, h1, h2, h3, hr, hsb, hsl, hb⟩ := hcut
  clear hmk htb
  obtain ⟨c0, c1, -, -⟩ := hsb.two
  go_wp2
  have HR := Lib.hid hr
  have HSB := Lib.hid hsb
  have HSL := Lib.hid hsl
  have HB := Lib.hid hb
  clear hr hsb hsl hb c0 c1
  go_loopw [17] (fun i wr => ∃ j : Nat, j ≤ n ∧ i = .int .i64 j ∧ Whole wr w.heap.size 37 #[.slice none 0 0, .bool false] ∧ Whole wr gb 37 #[.slice (some ⟨gs, 0, none⟩) n n, .bool tb] ∧ Whole wr gs 4 (filledB (digits n x) j) ∧ Below w.heap.size w wr) (fun i _ => n - (intOf i).toNat)
  case atStart => exact ⟨0, Nat.zero_le _, rfl, HR.out, HSB.out, by rw [show filledB (digits n x) 0 = (bits (falses n)).toArray by simp [filledB, digits_len, falses]]; exact HSL.out, HB.out⟩
  case round =>
    clear HR HSB HSL HB
    obtain ⟨j, hj, rfl, hr, hsb, hsl, hb⟩ := hrel
    by_cases hlt : j < n
    · obtain ⟨c0, c1, -, -⟩ := hsb.two
      have hnw : IntKind.i64.wrap ((n : Int) - 1) = (n : Int) - 1 := IntWalk.i64_in _ (by omega)
      have hnj : IntKind.i64.wrap ((n : Int) - 1 - (j : Int)) = ((n - 1 - j : Nat) : Int) := by rw [IntWalk.i64_in _ (by omega)]; omega
      have hlen : j < (digits n x).length := by rw [digits_len]; exact hlt
      have hcell := (hsl.cell j).trans (filledB_at (digits n x) hlen)
      have hfr := hsl.open_ j
      have hji : (j : Int) < (n : Int) := by omega
      have hsl0 := hsl.lt
      have hbit := digit_int n x j hx hlt
      have HNX := Lib.hid (filledB_next (digits n x) hlen)
      have HR := Lib.hid hr
      have HSB := Lib.hid hsb
      have HSL := Lib.hid hsl
      have HB := Lib.hid hb
      have hrl := hr.lt
      clear hr hsb hsl hb
      generalize (digits n x)[j] = b at hbit HNX
      go_wp2_with fail
      go_region_held3 (fun w' => w'.cell? ⟨gb, 0, none⟩ = some (.slice (some ⟨gs, 0, none⟩) n n)) (go_keep) (fail)
      go_wp2
      go_roundw
      case rel => exact ⟨j + 1, by omega, by go_num, (HR.out.off (by omega)).drew, (HSB.out.off (fun h => hne h.symm)).drew, (by have h := HSL.out.set_ j (.bool b); rw [HNX.out] at h; exact h.drew), (below_set HB.out (by omega)).drew⟩
      case measure => simp [intOf]; omega
    · obtain rfl : j = n := by omega
      have hd : decide ((j : Int) < (j : Int)) = false := by simp
      obtain ⟨d0, d1, -, -⟩ := hsb.two
      obtain ⟨e0, e1, f0, f1⟩ := hr.two
      have hl1 := hr.lt
      have hsl' : Whole wr gs 4 (bits (digits j x)).toArray := by
        have h := filledB_done (digits j x)
        rw [digits_len] at h
        rw [← h]
        exact hsl
      have HF := Lib.hid (Fresh.of_whole (lo := w.heap.size) (hi := wr.heap.size) ((hsl'.off (b := w.heap.size) (o := 0) (u := .slice (some ⟨gs, 0, none⟩) j j) (by omega)).off (b := w.heap.size) (o := 1) (u := .bool tb) (by omega)) (by omega) hsl'.lt)
      have HB := Lib.hid (below_set (b := w.heap.size) (o := 1) (u := .bool tb) (below_set (b := w.heap.size) (o := 0) (u := .slice (some ⟨gs, 0, none⟩) j j) hb (Nat.le_refl _)) (Nat.le_refl _))
      clear hr hsb hsl hsl' hb
      go_wp2
      refine bodyPost_ret (v := .agg #[.slice (some ⟨gs, 0, none⟩) j j, .bool tb]) (by simp [results, Try.results87, go_sem, e0, e1]) rfl ⟨some ⟨gs, 0, none⟩, j, rfl, ?_, HB.out⟩
      have h := HF.out
      simpa [World.setCell] using h
end Go.Proofs.Ytcikimjpjebflaa

namespace Go.Proofs.Ytcikimjpjebflaa
open Go.RowKit

set_option maxHeartbeats 1600000 in
theorem keBank_own (n x : Nat) (w : World) (hn : n ≤ 8) (hx : x < 1048576) :
    Calls Try.prog 107 #[.int .i64 x, .int .i64 n] w (fun e w' => ∃ (E : Option Addr) (r : Nat), e = .returned (.agg #[.slice E n r, .bool (topBit n x)]) ∧ Fresh w' w.heap.size w'.heap.size 4 E (bits (digits n x)) ∧ Below w.heap.size w w') := by
  have h0 := Whole.fresh w 129 #[.slice none 0 0, .bool false]
  have hb1 := below1 w (.cells #[.slice none 0 0, .bool false] 129)
  go_enter Try.func107, Try.ntmps107
  go_wp2_with fail
  refine (seState_own n x _ hn hx).mono ?_
  rintro e w1 ⟨E, r, rfl, hf, hb⟩
  have hl1 : w.heap.size + 1 ≤ w1.heap.size := by have := hb.size; simpa using this
  have ht := below_then hb1 hb (by simp)
  have h0a := (h0.below hb).alloc (.cells #[.slice E n r, .bool (topBit n x)] 37)
  have ht2 := ht.alloc ht.size (.cells #[.slice E n r, .bool (topBit n x)] 37)
  have hf2 := hf.alloc (.cells #[.slice E n r, .bool (topBit n x)] 37)
  obtain ⟨e0, e1, f0, f1⟩ := h0a.two
  have hl0 := h0a.lt
  have HF := Lib.hid (((hf2.set_out (b := w.heap.size) (o := 0) (u := .slice E n r) (.inl (by simp))).set_out (b := w.heap.size) (o := 1) (u := .bool (topBit n x)) (.inl (by simp))).more (lo' := w.heap.size) (hi' := w1.heap.size + 1) (by simp) (by omega))
  have HB := Lib.hid (below_set (b := w.heap.size) (o := 1) (u := .bool (topBit n x)) (below_set (b := w.heap.size) (o := 0) (u := .slice E n r) ht2 (Nat.le_refl _)) (Nat.le_refl _))
  clear hb ht hf hf2 ht2 h0
  go_wp2
  refine bodyPost_ret (v := .agg #[.slice E n r, .bool (topBit n x)]) (by simp [results, Try.results107, go_sem, e0, e1]) rfl ⟨E, r, rfl, ?_, HB.out⟩
  have h := HF.out
  simpa [World.setCell] using h

/-- Is the bank with a number safe? -/
def safeAt (n : Nat) (ls : List (List Int)) (x : Nat) : Bool := !ls.any (leftBy (digits n x) (topBit n x))
/-- How many of the first j banks are safe. -/
def safeTo (n : Nat) (ls : List (List Int)) (j : Nat) : Nat := ((List.range j).filter (safeAt n ls)).length
theorem safeTo_next (n : Nat) (ls : List (List Int)) (j : Nat) : safeTo n ls (j + 1) = safeTo n ls j + (safeAt n ls j).toNat := by
  rw [safeTo, List.range_succ, List.filter_append, List.length_append, safeTo]
  cases h : safeAt n ls j <;> simp [h]
theorem safeTo_le (n : Nat) (ls : List (List Int)) (j : Nat) : safeTo n ls j ≤ j := by
  have := List.length_filter_le (safeAt n ls) (List.range j)
  rw [List.length_range] at this
  exact this
noncomputable def countSafe (k s : Int) (ls : List (List Int)) : Int := if keepOk k s ls then (safeTo k.toNat ls (2 ^ (k.toNat + 1)) : Nat) else 0

set_option maxHeartbeats 6400000 in
set_option maxRecDepth 100000 in
theorem specCountSafe_any (k s : Int) (A : Option Addr) (m c : Nat) (rs : List RowV) (w : World) (hA : Grid w A rs) (hx : rs.length = m) (hm : m ≤ 1048576) :
    Calls Try.prog 60 #[.agg #[.int .i64 k, .slice A m c, .int .i64 s]] w fun e w' => e = .returned (.tuple #[.int .i64 (countSafe k s (rowNums rs)), .bool (keepOk k s (rowNums rs))]) ∧ Below w.heap.size w w' := by
  have HX := Lib.hid hx
  clear hx
  have h0 := Whole.fresh w 69 #[.int .i64 k, .slice A m c, .int .i64 s]
  have hbw := below1 w (.cells #[.int .i64 k, .slice A m c, .int .i64 s] 69)
  have hA2 := hA.below hbw
  cases hk : keepOk k s (rowNums rs)
  · have HK := Lib.hid hk
    have HS : Hid (countSafe k s (rowNums rs) = 0) := by show _ = _; rw [countSafe, hk]; rfl
    clear hk
    go_enter Try.func60, Try.ntmps60
    go_wp2_with fail
    refine (keGood_any k s A m c rs _ hA2 HX.out hm).mono ?_
    rintro e w1 ⟨rfl, hb⟩
    rw [HK.out]
    have ht := below_then hbw hb (by simp)
    clear hb
    go_wp2
    go_ret2
    exact ⟨by rw [HS.out]; rfl, ht⟩
  · obtain ⟨n, rfl⟩ : ∃ n : Nat, k = n := ⟨k.toNat, by have := (keepOk_iff.1 hk).1; omega⟩
    have hn8 : n ≤ 8 := by have := (keepOk_iff.1 hk).1; omega
    have HK := Lib.hid hk
    have HS : Hid (countSafe (n : Int) s (rowNums rs) = (safeTo n (rowNums rs) (2 ^ (n + 1)) : Nat)) := by show _ = _; rw [countSafe, hk]; rfl
    have HDG : Hid (∀ d ∈ rowNums rs, IsDg (n : Int) d) := fun d hd => by
      obtain ⟨j, hj, rfl⟩ := List.getElem_of_mem hd
      exact dg_at hk hj
    have hN : 2 ^ (n + 1) ≤ 512 := Nat.le_trans (Nat.pow_le_pow_right (n := 2) (by decide) (show n + 1 ≤ 9 by omega)) (by decide)
    have h1 : (2 : Int) * 2 ^ n = ((2 ^ (n + 1) : Nat) : Int) := by push_cast; rw [Int.pow_succ, Int.mul_comm]
    generalize 2 ^ (n + 1) = N at hN h1 HS
    have hsh : IntKind.i64.wrap (2 * 2 ^ n) = (N : Int) := by
      rw [h1]
      exact IntWalk.i64_in _ (by omega)
    clear h1
    clear hk
    go_enter Try.func60, Try.ntmps60
    go_wp2_with fail
    refine (keGood_any (n : Int) s A m c rs _ hA2 HX.out hm).mono ?_
    rintro e w1 ⟨rfl, hb⟩
    rw [HK.out]
    have H0 := Lib.hid (h0.below hb)
    have HT := Lib.hid (below_then hbw hb (by simp))
    have HG := Lib.hid hA
    have hl0 := H0.out.lt
    clear hb h0 hbw hA hA2
    go_wp2
    go_loopw [4, 5] (fun v i wr => ∃ j : Nat, j ≤ N ∧ i = .int .i64 j ∧ v = .int .i64 (safeTo n (rowNums rs) j : Nat) ∧ Whole wr w.heap.size 69 #[.int .i64 (n : Int), .slice A m c, .int .i64 s] ∧ Below w.heap.size w wr) (fun _ i _ => N - (intOf i).toNat)
    case atStart => exact ⟨0, Nat.zero_le _, rfl, by simp [safeTo], H0.out, HT.out⟩
    case round =>
      clear H0 HT hl0
      obtain ⟨j, hj, rfl, rfl, h0, hb⟩ := hrel
      obtain ⟨z0, z1, z2⟩ := h0.cells3
      have HNX := Lib.hid (safeTo_next n (rowNums rs) j)
      have hst := safeTo_le n (rowNums rs) j
      have HA : Hid (safeAt n (rowNums rs) j = !(rowNums rs).any (leftBy (digits n j) (topBit n j))) := rfl
      have H0 := Lib.hid h0
      have HB := Lib.hid hb
      clear h0 hb
      generalize hcn : safeTo n (rowNums rs) j = cn at *
      have HCN := Lib.hid hcn
      clear hcn
      by_cases hlt : j < N
      · have hji : (j : Int) < (N : Int) := by omega
        have hd : decide ((j : Int) < (N : Int)) = true := by simp; omega
        go_wp2_with fail
        go_region_held3 (fun w' => w'.cell? ⟨w.heap.size, 0, none⟩ = some (.int .i64 (n : Int)) ∧ w'.cell? ⟨w.heap.size, 1, none⟩ = some (.slice A m c) ∧ w'.cell? ⟨w.heap.size, 2, none⟩ = some (.int .i64 s)) (go_keep)
          (first | (go_at_call 107; refine (keBank_own n j _ hn8 (by omega)).mono ?_; rintro e w3 ⟨E, r, rfl, hf3, hb3⟩; obtain ⟨y0, y1, y2⟩ := (H0.out.drew.below hb3).cells3) | (go_at_call 106; refine (keNow_any (n : Int) s A E m c n r rs (digits n j) (topBit n j) _ (by exact (HG.out.below HB.out.drew).below hb3) (by exact hf3.holds) HX.out hm (digits_len n j) (by omega) HDG.out).mono ?_; rintro e w4 ⟨D, d, acc, rfl, hra, -, hb4⟩; obtain ⟨x0, x1, x2⟩ := ((H0.out.drew.below hb3).below hb4).cells3))
        have HB4 := Lib.hid (below_then (below_then HB.out.drew hb3 HB.out.size) hb4 (Nat.le_trans HB.out.size hb3.size))
        have H04 := Lib.hid ((H0.out.drew.below hb3).below hb4)
        have HE : Hid (((acc.length : Int) == 0) = safeAt n (rowNums rs) j) := by
          show _ = _
          rw [HA.out, now_some, ← hra, rowNums_len]
          cases acc <;> simp <;> omega
        have hE := HE.out
        clear hb3 hb4 hra hf3
        cases hsa : safeAt n (rowNums rs) j
        · rw [hsa] at hE HNX
          go_wp2
          go_roundw
          case rel => exact ⟨j + 1, by omega, by go_num, by rw [HNX.out]; simp, H04.out, HB4.out⟩
          case measure => simp [intOf]; omega
        · rw [hsa] at hE HNX
          have hw1 : IntKind.i64.wrap ((cn : Int) + 1) = (cn : Int) + 1 := IntWalk.i64_in _ (by omega)
          go_wp2
          go_roundw
          case rel => exact ⟨j + 1, by omega, by go_num, by rw [HNX.out]; simp, H04.out, HB4.out⟩
          case measure => simp [intOf]; omega
      · obtain rfl : j = N := by omega
        have hd : decide ((j : Int) < (j : Int)) = false := by simp
        clear HNX
        go_wp2
        go_ret2
        exact ⟨by rw [HS.out, HCN.out]; rfl, HB.out⟩
end Go.Proofs.Ytcikimjpjebflaa

namespace Go.Proofs.Ytcikimjpjebflaa
open Go.RowKit

def placeK (f : Nat → Bool) (t : Bool) : Array Value := #[.bool (f 0), .bool (f 1), .bool (f 2), .bool (f 3), .bool (f 4), .bool (f 5), .bool (f 6), .bool (f 7), .bool t]
theorem place_K (bs : List Bool) (t : Bool) : placeCells bs t = placeK (fun i => bs.getD i false) t := rfl
/-- What IsSafe and DangersNow tell. -/
noncomputable def safeB (k s : Int) (ls : List (List Int)) (bs : List Bool) (t : Bool) : Bool := asked k s ls bs && !ls.any (leftBy bs t)
noncomputable def dangersLs (k s : Int) (ls : List (List Int)) (bs : List Bool) (t : Bool) : List (List Int) := if asked k s ls bs then nowOf bs t ls else []
theorem asked_dg {k s : Int} {ls : List (List Int)} {bs : List Bool} (h : asked k s ls bs = true) : ∀ d ∈ ls, IsDg (bs.length : Int) d := by
  obtain ⟨h1, h2⟩ := asked_parts h
  intro d hd
  obtain ⟨j, hj, rfl⟩ := List.getElem_of_mem hd
  rw [h2]
  exact dg_at h1 hj

def BankPlacePost (k s : Int) (ls : List (List Int)) (bs : List Bool) (t : Bool) (w : World) (e : Ending) (w' : World) : Prop :=
  ((asked k s ls bs = true ∧ e = .returned (.tuple #[.agg (placeCells bs t), .bool true])) ∨ (asked k s ls bs = false ∧ e = .returned (.tuple #[.agg (placeCells [] false), .bool false]))) ∧ Below w.heap.size w w'

end Go.Proofs.Ytcikimjpjebflaa

namespace Go.Proofs.Ytcikimjpjebflaa
open Go.RowKit

/-- The people of a crowd before the k-th. -/
def upTo (l : List Int) (k : Nat) : List Int := ((List.range k).filter (fun i => has l i)).map Int.ofNat
theorem upTo_yes {l : List Int} {k : Nat} (h : has l k = true) : upTo l (k + 1) = upTo l k ++ [(k : Int)] := by
  simp [upTo, List.range_succ, List.filter_append, h]
theorem upTo_no {l : List Int} {k : Nat} (h : has l k = false) : upTo l (k + 1) = upTo l k := by
  simp [upTo, List.range_succ, List.filter_append, h]
theorem upTo_len (l : List Int) (k : Nat) : (upTo l k).length ≤ k := by
  have := List.length_filter_le (fun i => has l i) (List.range k)
  simpa [upTo] using this
theorem rise_eq : ∀ {a b : List Int}, a.Pairwise (· < ·) → b.Pairwise (· < ·) → (∀ x, x ∈ a ↔ x ∈ b) → a = b
  | [], [], _, _, _ => rfl
  | [], y :: b, _, _, h => by have := (h y).2 (by simp); simp at this
  | x :: a, [], _, _, h => by have := (h x).1 (by simp); simp at this
  | x :: a, y :: b, ha, hb, h => by
    rw [List.pairwise_cons] at ha hb
    have e : x = y := by
      have h1 := (h x).1 (by simp)
      have h2 := (h y).2 (by simp)
      rcases List.mem_cons.1 h1 with h1 | h1
      · exact h1
      · rcases List.mem_cons.1 h2 with h2 | h2
        · exact h2.symm
        · have := hb.1 _ h1
          have := ha.1 _ h2
          omega
    subst e
    rw [rise_eq ha.2 hb.2 fun z => ?_]
    constructor
    · intro hz
      rcases List.mem_cons.1 ((h z).1 (List.mem_cons_of_mem _ hz)) with e | e
      · have := ha.1 _ hz; omega
      · exact e
    · intro hz
      rcases List.mem_cons.1 ((h z).2 (List.mem_cons_of_mem _ hz)) with e | e
      · have := hb.1 _ hz; omega
      · exact e
theorem steps_lt {l : List Int} {hi : Int} (h : StepsTo l hi l.length) : ∀ (d i : Nat), i + d + 1 < l.length → l.getD i 0 < l.getD (i + d + 1) 0
  | 0, i, hd => by
    have := (h (i + 1) (by omega)).2.2
    rcases this with h | h
    · omega
    · simpa using h
  | d + 1, i, hd => by
    have h1 := steps_lt h d i (by omega)
    have := (h (i + d + 1 + 1) (by omega)).2.2
    rcases this with h | h
    · omega
    · have h2 : l.getD (i + d + 1) 0 < l.getD (i + d + 1 + 1) 0 := by simpa using h
      exact Int.lt_trans h1 h2
theorem steps_pair {l : List Int} {hi : Int} (h : StepsTo l hi l.length) : l.Pairwise (· < ·) := by
  rw [List.pairwise_iff_getElem]
  intro i j hi' hj hij
  have := steps_lt h (j - i - 1) i (by omega)
  rw [show i + (j - i - 1) + 1 = j by omega] at this
  simpa [hi', hj] using this
theorem upTo_all {l : List Int} {hi : Int} (h : StepsTo l hi l.length) (h7 : hi ≤ 7) : upTo l 8 = l := by
  refine rise_eq ?_ (steps_pair h) fun x => ?_
  · refine List.Pairwise.map _ (fun a b hab => ?_) (List.Pairwise.filter _ (List.pairwise_lt_range (n := 8)))
    exact Int.ofNat_lt.2 hab
  · simp only [upTo, List.mem_map, List.mem_filter, List.mem_range]
    constructor
    · rintro ⟨i, ⟨-, hh⟩, rfl⟩
      exact has_iff.1 hh
    · intro hx
      have hm := mem_steps h hx
      obtain ⟨i, rfl⟩ := Int.eq_ofNat_of_zero_le hm.1
      exact ⟨i, ⟨by omega, has_iff.2 hx⟩, rfl⟩

set_option maxHeartbeats 1600000 in
set_option maxRecDepth 100000 in
theorem list_any (l : List Int) (hi : Int) (w : World) (hs : StepsTo l hi l.length) (h7 : hi ≤ 7) :
    Calls Try.prog 105 #[.agg (crowdCells l)] w (OwnPost l w) := by
  obtain ⟨i0, hi0, hz0, hz1, hz2⟩ := info_parts info_int
  have HI := Lib.hid hi0
  have HZ0 := Lib.hid hz0
  have HZ1 := Lib.hid hz1
  have HZ2 := Lib.hid hz2
  have HALL := Lib.hid (upTo_all hs h7)
  have hc := Whole.fresh w 81 (crowdCells l)
  have hbw := below1 w (.cells (crowdCells l) 81)
  have HBW := Lib.hid hbw
  obtain ⟨m0, m1, m2, m3, m4, m5, m6, m7⟩ := crowd_cells hc
  clear hi0 hz0 hz1 hz2 hs h7 hbw
  go_enter Try.func105, Try.ntmps105
  go_wp2
  go_loopw [3, 8] (fun v i wr => ∃ (k : Nat) (E : Option Addr) (d : Nat), k ≤ 8 ∧ i = .int .i64 k ∧ v = .slice E (upTo l k).length d ∧ wr.ownsRow w.heap.size 3 1 (.slice E (upTo l k).length d) (upTo l k).length (nums (upTo l k)) ∧ Below w.heap.size w wr) (fun _ i _ => 8 - (intOf i).toNat)
  case atStart => exact ⟨0, none, 0, by omega, rfl, rfl, World.ownsRow_nil _ _ _ _, HBW.out⟩
  case round =>
    obtain ⟨k, E, d, hk, rfl, rfl, hown, hb⟩ := hrel
    by_cases hlt : k < 8
    · have hix := fun W : World => index_crowd l hlt W
      have hk8 : (k : Int) < 8 := by omega
      have hul := upTo_len l k
      cases hp : has l k
      · have HS := Lib.hid (upTo_no hp)
        have HO := Lib.hid hown
        rw [hp] at hix
        clear hp hown
        go_wp2
        go_roundw
        case rel => exact ⟨k + 1, E, d, by omega, by go_num, by rw [HS.out], by rw [HS.out]; exact HO.out, hb⟩
        case measure => simp [intOf]; omega
      · have HS := Lib.hid (upTo_yes hp)
        have HOW := Lib.hid (hown.alloc (.cells #[.int .i64 k] 3))
        have HB := Lib.hid (hb.alloc hb.size (.cells #[.int .i64 k] 3))
        have HBASE := Lib.hid (show w.heap.size ≤ (wr.alloc (.cells #[.int .i64 k] 3)).heap.size by have := hb.size; simp; omega)
        have HMAX := Lib.hid (show (upTo l k).length + 1 ≤ maxLen by unfold maxLen; omega)
        have HBYT := Lib.hid (show ((upTo l k).length + 1) * 8 ≤ 140737488355328 by omega)
        have HLEN : Hid ((upTo l (k + 1)).length = (upTo l k).length + 1) := by show _ = _; rw [HS.out]; simp
        rw [hp] at hix
        clear hp hown hb
        go_wp2_with (at_builtin; refine wpList_append_own _ rfl (.tmp 13) (.tmp 15) 22 rfl w.heap.size 3 i0 (.int .i64 0) 1 8 Try.underlying22 HI.out HZ0.out HZ1.out HZ2.out rfl (by decide) (.slice E (upTo l k).length d) (upTo l k).length (nums (upTo l k)) rfl HOW.out ⟨wr.heap.size, 0, none⟩ 1 1 [.int .i64 k] rfl rfl (cell_one_new _ _ _) (by simp [Value.oneCell']) HMAX.out HBYT.out HBASE.out ?_; intro v' w2 hown1 hg1 _; obtain ⟨D', q', hv', -⟩ := Fresh.of_own hown1 (Nat.le_refl _); rw [hv'] at hown1 ⊢; clear hv')
        have HBN := Lib.hid (HB.out.grown hg1 HBASE.out (fun kk e => (HOW.out.lt _ e).1))
        have HON := Lib.hid hown1
        clear hg1 hown1
        go_roundw
        case rel => exact ⟨k + 1, D', q', by omega, by go_num, by rw [HLEN.out], by rw [HLEN.out, HS.out, show nums (upTo l k ++ [(k : Int)]) = nums (upTo l k) ++ [.int .i64 k] by simp [nums]]; exact HON.out, HBN.out⟩
        case measure => simp [intOf]; omega
    · obtain rfl : k = 8 := by omega
      rw [HALL.out] at hown
      have HO := Lib.hid hown
      have HL : Hid ((upTo l 8).length = l.length) := by show _ = _; rw [HALL.out]
      clear hown
      go_wp2
      go_ret
      exact ⟨E, d, by rw [HL.out]; rfl, HO.out, hb⟩
end Go.Proofs.Ytcikimjpjebflaa

namespace Go.Proofs.Ytcikimjpjebflaa
open Go.RowKit

theorem own_room {w : World} {base n c : Nat} {e : TypeId} {A : Option Addr} {xs : List Value} (h : w.ownsRow base e 1 (.slice A n c) n xs) : n ≤ c := by
  rcases own_some h with ⟨-, rfl, rfl⟩ | ⟨g, -, h⟩
  · exact Nat.le_refl _
  · exact h

/-- The people before the k-th who are where the torch is. -/
def hereTo (bs : List Bool) (t : Bool) (k : Nat) : List Int := ((List.range k).filter (fun i => bs.getD i false == t)).map Int.ofNat
theorem here_yes {bs : List Bool} {t : Bool} {k : Nat} (h : (bs.getD k false == t) = true) : hereTo bs t (k + 1) = hereTo bs t k ++ [(k : Int)] := by
  simp only [hereTo, List.range_succ, List.filter_append, List.map_append, List.filter_cons, h]
  rfl
theorem here_no {bs : List Bool} {t : Bool} {k : Nat} (h : (bs.getD k false == t) = false) : hereTo bs t (k + 1) = hereTo bs t k := by
  simp only [hereTo, List.range_succ, List.filter_append, List.map_append, List.filter_cons, h]
  simp
theorem here_len (bs : List Bool) (t : Bool) (k : Nat) : (hereTo bs t k).length ≤ k := by
  have := List.length_filter_le (fun i => bs.getD i false == t) (List.range k)
  simpa [hereTo] using this

set_option maxHeartbeats 3200000 in
set_option maxRecDepth 100000 in
theorem atTorch_any (n : Nat) (bs : List Bool) (t : Bool) (w : World) (hn : n ≤ 8) :
    Calls Try.prog 165 #[.agg (placeCells bs t), .int .i64 n] w (OwnPost (hereTo bs t n) w) := by
  obtain ⟨i0, hi, hz0, hz1, hz2⟩ := info_parts info_int
  have HI := Lib.hid hi
  have HZ0 := Lib.hid hz0
  have HZ1 := Lib.hid hz1
  have HZ2 := Lib.hid hz2
  have h0 := Whole.fresh w 83 (placeCells bs t)
  have hbw := below1 w (.cells (placeCells bs t) 83)
  have HBW := Lib.hid hbw
  have HH0 := Lib.hid h0
  clear hi hz0 hz1 hz2 hbw h0
  go_enter Try.func165, Try.ntmps165
  go_wp2
  go_loopw [5, 8] (fun v i wr => ∃ (k : Nat) (E : Option Addr) (r : Nat), k ≤ n ∧ i = .int .i64 k ∧ v = .slice E (hereTo bs t k).length r ∧ wr.ownsRow (w.heap.size + 1) 3 1 (.slice E (hereTo bs t k).length r) (hereTo bs t k).length (nums (hereTo bs t k)) ∧ Below (w.heap.size + 1) (w.alloc (.cells (placeCells bs t) 83)) wr) (fun _ i _ => n - (intOf i).toNat)
  case atStart => exact ⟨0, none, 0, Nat.zero_le _, rfl, rfl, World.ownsRow_nil _ _ _ _, Below.refl _ _⟩
  case round =>
    obtain ⟨k, E, r, hk, rfl, rfl, hown, hb⟩ := hrel
    have hhl := here_len bs t k
    have h1 := HH0.out.below' hb (by omega)
    have ht8 := (h1.cell 8).trans (show (placeCells bs t)[8]? = some (.bool t) from rfl)
    have hs2 : w.heap.size + 1 ≤ wr.heap.size := by have := hb.size; simpa using this
    by_cases hlt : k < n
    · have hkc := (h1.cell k).trans (place_at bs t (by omega : k < 8))
      have hk8 : (k : Int) < 8 := by omega
      have hyes := here_yes (bs := bs) (t := t) (k := k)
      have hno := here_no (bs := bs) (t := t) (k := k)
      generalize bs.getD k false = x at hkc hyes hno
      have HOWN := Lib.hid hown
      have HB := Lib.hid hb
      clear hown hb h1
      by_cases hxt : x = t
      · subst hxt
        have HS := Lib.hid (hyes (by simp))
        have hxx : (x == x) = true := by simp
        have HLEN : Hid ((hereTo bs x (k + 1)).length = (hereTo bs x k).length + 1) := by show _ = _; rw [HS.out]; simp
        clear hyes hno
        go_wp2
        go_quiet (fail)
        rename_i nq
        have HOW := Lib.hid ((own_below HOWN.out (below_draws (Below.refl _ _) nq)).alloc (.cells #[.int .i64 k] 3))
        have HBB := Lib.hid ((below_draws HB.out nq).alloc (by simpa using hs2) (.cells #[.int .i64 k] 3))
        have HBASE := Lib.hid (show w.heap.size + 1 ≤ ((wr.drewN nq).alloc (.cells #[.int .i64 k] 3)).heap.size by simp; omega)
        have HMAX := Lib.hid (show (hereTo bs x k).length + 1 ≤ maxLen by unfold maxLen; omega)
        have HBYT := Lib.hid (show ((hereTo bs x k).length + 1) * 8 ≤ 140737488355328 by omega)
        go_wp2_with (at_builtin; refine wpList_append_own _ rfl (.tmp 19) (.tmp 21) 22 rfl (w.heap.size + 1) 3 i0 (.int .i64 0) 1 8 Try.underlying22 HI.out HZ0.out HZ1.out HZ2.out rfl (by decide) (.slice E (hereTo bs x k).length r) (hereTo bs x k).length (nums (hereTo bs x k)) rfl HOW.out ⟨wr.heap.size, 0, none⟩ 1 1 [.int .i64 k] rfl rfl (cell_one_new _ _ _) (by simp [Value.oneCell']) HMAX.out HBYT.out HBASE.out ?_; intro v' w2 hown1 hg1 _; obtain ⟨D', q', hv', -⟩ := Fresh.of_own hown1 (Nat.le_refl _); rw [hv'] at hown1 ⊢; clear hv')
        have HBN := Lib.hid (HBB.out.grown hg1 HBASE.out (fun kk e => (HOW.out.lt _ e).1))
        have HON := Lib.hid hown1
        clear hg1 hown1
        go_roundw
        case rel => exact ⟨k + 1, D', q', by omega, by go_num, by rw [HLEN.out], by rw [HLEN.out, HS.out, show nums (hereTo bs x k ++ [(k : Int)]) = nums (hereTo bs x k) ++ [.int .i64 k] by simp [nums]]; exact HON.out, HBN.out⟩
        case measure => simp [intOf]; omega
      · have HS := Lib.hid (hno (by simpa using hxt))
        have hxf : (x == t) = false := by simpa using hxt
        clear hyes hno
        go_wp2
        go_quiet (fail)
        rename_i nq
        have HOW := Lib.hid (own_below HOWN.out (below_draws (Below.refl _ _) nq))
        have HBB := Lib.hid (below_draws HB.out nq)
        go_wp2
        go_roundw
        case rel => exact ⟨k + 1, E, r, by omega, by go_num, by rw [HS.out], by rw [HS.out]; exact HOW.out, HBB.out⟩
        case measure => simp [intOf]; omega
    · obtain rfl : k = n := by omega
      have HO := Lib.hid (own_lower hown (base' := w.heap.size) (by omega))
      have HB := Lib.hid (HBW.out.trans (hb.mono (by omega)))
      clear hown hb
      go_wp2
      go_ret
      exact ⟨E, r, rfl, HO.out, HB.out⟩
end Go.Proofs.Ytcikimjpjebflaa

namespace Go.Proofs.Ytcikimjpjebflaa
open Go.RowKit

/-- The first n people. -/
def firsts (n : Nat) : List Int := (List.range n).map Int.ofNat
theorem firsts_len (n : Nat) : (firsts n).length = n := by simp [firsts]
theorem here_firsts (n : Nat) : hereTo [] false n = firsts n := by
  rw [hereTo, firsts]
  congr 1
  rw [List.filter_eq_self]
  intro x _
  rfl
/-- The lists of 1..m of the first n people, in order. -/
def upLists (n m : Nat) : List (List Int) := subs m (firsts n) []
theorem upLists_small {n m : Nat} (h : n ≤ 8) : (upLists n m).length ≤ 255 := subs_small (by rw [firsts_len]; exact h)
theorem steps_of {l : List Int} {hi : Int} (hp : l.Pairwise (· < ·)) (h0 : ∀ x ∈ l, 0 ≤ x ∧ x ≤ hi) : StepsTo l hi l.length := fun j hj => by
  have hm := h0 l[j] (List.getElem_mem hj)
  refine ⟨by rw [getD_at l hj]; exact hm.1, by rw [getD_at l hj]; exact hm.2, ?_⟩
  by_cases h : j = 0
  · exact .inl h
  · right
    rw [getD_at l hj, getD_at l (by omega)]
    exact List.pairwise_iff_getElem.1 hp (j - 1) j (by omega) hj (by omega)
theorem firsts_pair (n : Nat) : (firsts n).Pairwise (· < ·) := by
  rw [firsts, List.pairwise_map]
  exact List.pairwise_lt_range.imp (fun h => by simpa using h)
theorem firsts_mem {n : Nat} {x : Int} (h : x ∈ firsts n) : 0 ≤ x ∧ x ≤ (n : Int) - 1 := by
  obtain ⟨k, hk, rfl⟩ := List.mem_map.1 h
  have := List.mem_range.1 hk
  exact ⟨by simp, by simp; omega⟩
theorem up_steps {n m : Nat} {l : List Int} (h : l ∈ upLists n m) : StepsTo l ((n : Int) - 1) l.length ∧ 1 ≤ l.length ∧ l.length ≤ m := by
  obtain ⟨c, hc, hne, hs, hl⟩ := (subs_mem m (firsts n) [] l).1 h
  rw [List.nil_append] at hc
  subst hc
  exact ⟨steps_of ((firsts_pair n).sublist hs) (fun x hx => firsts_mem (hs.subset hx)), List.length_pos_iff.2 hne, hl⟩
theorem up_trip {n m : Nat} {l : List Int} (h : l ∈ upLists n m) : isTrip n m l = true := by
  obtain ⟨h1, h2, h3⟩ := up_steps h
  exact trip_yes (by omega) (by omega) h1

/-- What a call hands back that makes a list of crowds. -/
def CrowdsPost (ls : List (List Int)) (w : World) (e : Ending) (w' : World) : Prop :=
  ∃ (A : Option Addr) (c : Nat), e = .returned (.slice A ls.length c) ∧ w'.ownsRow w.heap.size 81 8 (.slice A ls.length c) ls.length (crowdsOf ls) ∧ Below w.heap.size w w'

set_option maxHeartbeats 3200000 in
set_option maxRecDepth 100000 in
theorem crowdsUpTo_any (n m : Nat) (w : World) (hn : n ≤ 8) (hm : m ≤ 8) :
    Calls Try.prog 142 #[.int .i64 n, .int .i64 m] w (CrowdsPost (upLists n m) w) := by
  obtain ⟨i0, hi, hz0, hz1, hz2⟩ := info_parts info_crowd
  have HI := Lib.hid hi
  have HZ0 := Lib.hid hz0
  have HZ1 := Lib.hid hz1
  have HZ2 := Lib.hid hz2
  have HF := Lib.hid (here_firsts n)
  have HLN := Lib.hid (firsts_len n)
  have HSM := Lib.hid (upLists_small (m := m) hn)
  have HTR : Hid (∀ l ∈ upLists n m, isTrip n m l = true) := fun l h => up_trip h
  clear hi hz0 hz1 hz2
  go_enter Try.func142, Try.ntmps142
  go_wp2_with fail
  refine (atTorch_any n [] false w hn).mono ?_
  rintro e w1 ⟨A1, c1, rfl, hown1, hb1⟩
  rw [HF.out, HLN.out] at hown1 ⊢
  go_wp2_with fail
  refine (listsFrom_any m hm 9 none A1 0 0 n c1 [] (firsts n) w1 (by rw [HLN.out]; omega) (Nat.le_refl _) (Holds.empty _ _) (holds_of_own hown1) rfl HLN.out (own_room hown1) (fun _ => ⟨rfl, rfl⟩)).mono ?_
  rintro e w2 ⟨A2, c2, rs, rfl, hr, hn2, hs2, hh, hb2⟩
  have hb0 : Below w.heap.size w w2 := below_then hb1 hb2 hb1.size
  have hG := hh.free.grid
  have HR : Hid (rowNums rs = upLists n m) := hr
  have HRL : Hid (rs.length = (upLists n m).length) := by show _ = _; rw [← HR.out, rowNums_len]
  have HB0 := Lib.hid hb0
  have hw12 : w1.heap.size ≤ w2.heap.size := hb2.size
  have hw01 : w.heap.size ≤ w1.heap.size := hb1.size
  clear hown1 hb1 hb2 hr hn2 hs2 hh hb0
  go_wp2
  go_loopw [5, 16] (fun v i wr => ∃ (k : Nat) (T : Option Addr) (r : Nat), k ≤ rs.length ∧ i = .int .i64 k ∧ v = .slice T k r ∧ wr.ownsRow w2.heap.size 81 8 (.slice T k r) k (crowdsOf ((rowNums rs).take k)) ∧ Below w2.heap.size w2 wr) (fun _ i _ => rs.length - (intOf i).toNat)
  case atStart => exact ⟨0, none, 0, Nat.zero_le _, rfl, rfl, World.ownsRow_nil _ _ _ _, Below.refl _ _⟩
  case round =>
    obtain ⟨k, T, r, hk, rfl, rfl, hown, hb⟩ := hrel
    have HOWN := Lib.hid hown
    clear hown
    by_cases hlt : k < rs.length
    · have hkl : k < (rowNums rs).length := by rw [rowNums_len]; exact hlt
      obtain ⟨b1, o1, rfl, hbl1, hc, hok⟩ := (hG.below hb).look hlt
      have hget := rowNums_get hlt
      have HTK : Hid (isTrip n m rs[k].xs = true) := HTR.out _ (by rw [← HR.out, ← hget]; exact List.getElem_mem hkl)
      have hcn := crowdsOf_next hkl
      rw [hget] at hcn
      have HCN := Lib.hid hcn
      have hk255 : k ≤ 255 := by have := HSM.out; have := HRL.out; omega
      clear hget hcn
      go_wp2_with fail
      refine (crowdOf_any _ n _ _ rs[k].xs m _ hok.1 hok.2.1 hok.2.2 hn).mono ?_
      rintro e1 w3 ⟨⟨ht, rfl⟩ | ⟨ht, rfl⟩, hb3⟩
      · have HBB := Lib.hid (((below_then hb hb3 hb.size).alloc (below_then hb hb3 hb.size).size (.cells (crowdCells rs[k].xs) 81)).alloc (Nat.le_trans (below_then hb hb3 hb.size).size (by simp)) (.cells (crowdCells rs[k].xs) 81))
        have HOW := Lib.hid (((ownsRow_below HOWN.out hb3).alloc (.cells (crowdCells rs[k].xs) 81)).alloc (.cells (crowdCells rs[k].xs) 81))
        have hnew := cells_new (w3.alloc (.cells (crowdCells rs[k].xs) 81)) 81 (crowdCells rs[k].xs)
        rw [World.size_alloc] at hnew
        have HNEW := Lib.hid hnew
        have HONE := Lib.hid (crowd_ones rs[k].xs)
        have HMAX := Lib.hid (show k + 1 ≤ maxLen by unfold maxLen; omega)
        have HBYT := Lib.hid (show (k + 1) * 8 ≤ 140737488355328 by omega)
        have HBASE := Lib.hid (show w2.heap.size ≤ ((w3.alloc (.cells (crowdCells rs[k].xs) 81)).alloc (.cells (crowdCells rs[k].xs) 81)).heap.size by have := (below_then hb hb3 hb.size).size; simp; omega)
        clear ht hb hb3 hok hc hnew
        unfold crowdCells at HNEW HONE HOW HBASE HBB
        unfold crowdCells
        go_wp2_with (at_builtin; refine wpList_append_own _ rfl (.tmp 28) (.tmp 30) 123 rfl w2.heap.size 81 i0 (.agg #[.bool false, .bool false, .bool false, .bool false, .bool false, .bool false, .bool false, .bool false]) 8 8 Try.underlying123 HI.out HZ0.out HZ1.out HZ2.out rfl (by decide) (.slice T k r) k (crowdsOf ((rowNums rs).take k)) rfl HOW.out ⟨w3.heap.size + 1, 0, none⟩ 1 1 [.bool (has rs[k].xs 0), .bool (has rs[k].xs 1), .bool (has rs[k].xs 2), .bool (has rs[k].xs 3), .bool (has rs[k].xs 4), .bool (has rs[k].xs 5), .bool (has rs[k].xs 6), .bool (has rs[k].xs 7)] rfl rfl HNEW.out HONE.out HMAX.out HBYT.out HBASE.out ?_; intro v' w4 hown1 hg1 _; obtain ⟨g2, e2, hv2⟩ := own_form hown1; subst hv2)
        have hbb2 := HBB.out.grown hg1 HBASE.out (fun kk x => by have := (HOW.out.lt _ x).1; omega)
        have hown2 : w4.ownsRow w2.heap.size 81 8 (.slice (some ⟨g2, 0, none⟩) (k + 1) e2) (k + 1) (crowdsOf ((rowNums rs).take (k + 1))) := by rw [← HCN.out]; exact hown1
        have HO2 := Lib.hid hown2
        clear hown1 hown2 hg1
        go_roundw
        case rel => exact ⟨k + 1, _, e2, by omega, by go_num, rfl, HO2.out, hbb2⟩
        case measure => simp [intOf]; omega
      · rw [HTK.out] at ht; cases ht
    · obtain rfl : k = rs.length := by omega
      have HO := Lib.hid (own_lower HOWN.out (base' := w.heap.size) (by omega))
      have HBB := Lib.hid (below_then HB0.out hb (by omega))
      go_wp2
      go_ret
      refine ⟨T, r, by rw [HRL.out]; rfl, ?_, HBB.out⟩
      have h := HO.out
      rw [List.take_of_length_le (by rw [rowNums_len]; exact Nat.le_refl _), HR.out, HRL.out] at h
      rw [← HRL.out] at h ⊢
      exact h
end Go.Proofs.Ytcikimjpjebflaa

namespace Go.Proofs.Ytcikimjpjebflaa
open Go.RowKit

theorem crowdsK_get : ∀ (ls : List (List Int)) (i j : Nat) (hi : i < ls.length), j < 8 → (crowdsOf ls)[i * 8 + j]? = some (.bool (has ls[i] j))
  | [], i, j, hi, _ => by simp at hi
  | l :: r, 0, j, hi, hj => by
    rw [show crowdsOf (l :: r) = (crowdCells l).toList ++ crowdsOf r from rfl, Nat.zero_mul, Nat.zero_add, List.getElem?_append_left (by simp [crowdCells]; omega)]
    have := crowd_at l hj
    simpa using this
  | l :: r, i + 1, j, hi, hj => by
    have ih := crowdsK_get r i j (by simpa using hi) hj
    rw [show crowdsOf (l :: r) = (crowdCells l).toList ++ crowdsOf r from rfl, List.getElem?_append_right (by simp [crowdCells]; omega)]
    rw [show (i + 1) * 8 + j - (crowdCells l).toList.length = i * 8 + j by simp [crowdCells]; omega]
    simpa using ih
/-- The cells of a crowd in a list of crowds. -/
theorem crowdsK_row {w : World} {lo n c : Nat} {A : Option Addr} {ls : List (List Int)} (h : w.ownsRow lo 81 8 (.slice A n c) n (crowdsOf ls)) (hl : ls.length = n) {i : Nat} (hi : i < ls.length) :
    ∃ g, A = some ⟨g, 0, none⟩ ∧ g < w.heap.size ∧ w.cell? ⟨g, i * 8, none⟩ = some (.bool (has ls[i] 0)) ∧ w.cell? ⟨g, i * 8 + 1, none⟩ = some (.bool (has ls[i] 1)) ∧ w.cell? ⟨g, i * 8 + 2, none⟩ = some (.bool (has ls[i] 2)) ∧ w.cell? ⟨g, i * 8 + 3, none⟩ = some (.bool (has ls[i] 3)) ∧
      w.cell? ⟨g, i * 8 + 4, none⟩ = some (.bool (has ls[i] 4)) ∧ w.cell? ⟨g, i * 8 + 5, none⟩ = some (.bool (has ls[i] 5)) ∧ w.cell? ⟨g, i * 8 + 6, none⟩ = some (.bool (has ls[i] 6)) ∧ w.cell? ⟨g, i * 8 + 7, none⟩ = some (.bool (has ls[i] 7)) := by
  have hx := h
  obtain ⟨-, ⟨-, h0⟩ | ⟨g, cap, cur, hv, -, hh, -⟩⟩ := hx
  · omega
  · obtain ⟨rfl, rfl⟩ : A = some ⟨g, 0, none⟩ ∧ c = cap := by simpa using hv
    have hg : g < w.heap.size := (Array.getElem?_eq_some_iff.1 hh).1
    have hc : ∀ j, j < 8 → w.cell? ⟨g, i * 8 + j, none⟩ = some (.bool (has ls[i] j)) := fun j hj => (h.cellAt (i * 8 + j) (by omega)).trans (crowdsK_get ls i j hi hj)
    exact ⟨g, rfl, hg, hc 0 (by omega), hc 1 (by omega), hc 2 (by omega), hc 3 (by omega), hc 4 (by omega), hc 5 (by omega), hc 6 (by omega), hc 7 (by omega)⟩
theorem crowds_ones : ∀ (ls : List (List Int)), ∀ u ∈ crowdsOf ls, u.oneCell' = true
  | [], u, h => by simp [crowdsOf] at h
  | l :: r, u, h => by
    rw [show crowdsOf (l :: r) = (crowdCells l).toList ++ crowdsOf r from rfl] at h
    rcases List.mem_append.1 h with h | h
    · exact crowd_ones l u h
    · exact crowds_ones r u h
theorem own_some8 {w : World} {base : Nat} {e : TypeId} {A : Option Addr} {n c : Nat} {xs : List Value} (h : w.ownsRow base e 8 (.slice A n c) n xs) : (A = none ∧ n = 0 ∧ c = 0) ∨ ∃ g, A = some ⟨g, 0, none⟩ ∧ n ≤ c := by
  obtain ⟨-, ⟨hv, hn⟩ | ⟨g, cap, cur, hv, -, -, h1, -⟩⟩ := h
  · obtain ⟨rfl, -, rfl⟩ : A = none ∧ n = 0 ∧ c = 0 := by simpa using hv
    exact .inl ⟨rfl, hn, rfl⟩
  · obtain ⟨rfl, -, rfl⟩ : A = some ⟨g, 0, none⟩ ∧ n = n ∧ c = cap := by simpa using hv
    exact .inr ⟨g, rfl, h1⟩
theorem own_nobody (w : World) : (w.alloc (.cells (crowdCells []) 81)).ownsRow w.heap.size 81 8 (.slice (some ⟨w.heap.size, 0, none⟩) 1 1) 1 (crowdsOf [[]]) :=
  ⟨rfl, .inr ⟨w.heap.size, 1, _, rfl, Nat.le_refl _, heap_alloc_new w _, Nat.le_refl _, by decide, rfl, rfl⟩⟩

set_option maxHeartbeats 3200000 in
set_option maxRecDepth 100000 in
theorem loadsUpTo_any (n m : Nat) (w : World) (hn : n ≤ 8) (hm : m ≤ 8) :
    Calls Try.prog 103 #[.int .i64 n, .int .i64 m] w (CrowdsPost ([] :: upLists n m) w) := by
  obtain ⟨i0, hi, hz0, hz1, hz2⟩ := info_parts info_crowd
  have HI := Lib.hid hi
  have HZ0 := Lib.hid hz0
  have HZ1 := Lib.hid hz1
  have HZ2 := Lib.hid hz2
  have hsm := upLists_small (m := m) hn
  have HO0 := Lib.hid (own_nobody w)
  have HB0 := Lib.hid (below1 w (.cells (crowdCells []) 81))
  clear hi hz0 hz1 hz2
  go_enter Try.func103, Try.ntmps103
  go_wp2_with fail
  refine (crowdsUpTo_any n m _ hn hm).mono ?_
  rintro e w1 ⟨A1, c1, rfl, hown1, hb1⟩
  have HO1 := Lib.hid (own_keep HO0.out hb1)
  have HB1 := Lib.hid (below_then HB0.out hb1 (by simp))
  have hs1 : w.heap.size + 1 ≤ w1.heap.size := by have := hb1.size; simpa using this
  have HN := Lib.hid hown1
  have HMAX := Lib.hid (show 1 + (upLists n m).length ≤ maxLen by unfold maxLen; omega)
  have HBYT := Lib.hid (show (1 + (upLists n m).length) * 8 ≤ 140737488355328 by omega)
  have HBASE := Lib.hid (show w.heap.size ≤ w1.heap.size by omega)
  have HONE := Lib.hid (crowds_ones (upLists n m))
  have HLN := Lib.hid (crowdsOf_len (upLists n m))
  rcases own_some8 hown1 with ⟨rfl, hl0, rfl⟩ | ⟨g, rfl, hgc⟩
  · have HNIL : Hid (upLists n m = []) := List.length_eq_zero_iff.1 hl0
    rw [hl0]
    clear hown1 hb1 hl0 hsm
    go_wp2_with (at_builtin; refine wpList_append_own_none rfl (.tmp 6) (.tmp 9) 123 rfl w.heap.size 81 i0 8 Try.underlying123 HI.out _ 1 (crowdsOf [[]]) rfl HO1.out rfl ?_)
    go_ret
    exact ⟨some ⟨w.heap.size, 0, none⟩, 1, by rw [HNIL.out]; rfl, by rw [HNIL.out]; exact HO1.out, HB1.out⟩
  · have HNEW : Hid (∀ j u, (crowdsOf (upLists n m))[j]? = some u → w1.cell? ((⟨g, 0, none⟩ : Addr).add j) = some u) := fun j u hu => by
      have hj : j < (upLists n m).length * 8 := by have := (List.getElem?_eq_some_iff.1 hu).1; rwa [crowdsOf_len] at this
      rw [show (⟨g, 0, none⟩ : Addr).add j = ⟨g, j, none⟩ from by unfold Addr.add; split <;> simp_all]
      exact (HN.out.cellAt j hj).trans hu
    clear hown1 hb1 hsm hgc
    go_wp2_with (at_builtin; refine wpList_append_own _ rfl (.tmp 6) (.tmp 9) 123 rfl w.heap.size 81 i0 (.agg #[.bool false, .bool false, .bool false, .bool false, .bool false, .bool false, .bool false, .bool false]) 8 8 Try.underlying123 HI.out HZ0.out HZ1.out HZ2.out rfl (by decide) (.slice (some ⟨w.heap.size, 0, none⟩) 1 1) 1 (crowdsOf [[]]) rfl HO1.out ⟨g, 0, none⟩ (upLists n m).length c1 (crowdsOf (upLists n m)) rfl HLN.out HNEW.out HONE.out HMAX.out HBYT.out HBASE.out ?_; intro v' w2 hown2 hg2 hz2)
    obtain ⟨D, q, rfl⟩ : ∃ D q, v' = .slice D (1 + (upLists n m).length) q := by
      obtain ⟨-, ⟨-, h0⟩ | ⟨g2, cap, cur, h, -⟩⟩ := hown2
      · omega
      · exact ⟨_, _, h⟩
    clear hz2
    have HBB := Lib.hid (HB1.out.grown hg2 HBASE.out (fun kk x => (HO1.out.lt _ x).1))
    have HO2 := Lib.hid hown2
    clear hown2 hg2
    go_ret
    exact ⟨D, q, by rw [List.length_cons, Nat.add_comm]; rfl, by rw [List.length_cons, Nat.add_comm]; exact HO2.out, HBB.out⟩
end Go.Proofs.Ytcikimjpjebflaa

namespace Go.Proofs.Ytcikimjpjebflaa
open Go.RowKit

/-- The things of a list, as truth values. -/
def bs8 (l : List Int) : List Bool := [has l 0, has l 1, has l 2, has l 3, has l 4, has l 5, has l 6, has l 7]
theorem place_bs8 (l : List Int) : placeCells (bs8 l) true = placeK (has l) true := rfl
/-- Is nothing left by the things of a list, the keeper with them? -/
def safeL (ls : List (List Int)) (l : List Int) : Bool := !ls.any (leftBy (bs8 l) true)
/-- Twice how many of some loads are safe. -/
def twiceL (ls : List (List Int)) : List (List Int) → Nat
  | [] => 0
  | l :: r => (if safeL ls l then 2 else 0) + twiceL ls r
theorem twiceL_snoc (ls : List (List Int)) (x : List Int) : ∀ r, twiceL ls (r ++ [x]) = twiceL ls r + (if safeL ls x then 2 else 0)
  | [] => by simp [twiceL]
  | l :: r => by rw [List.cons_append, twiceL, twiceL, twiceL_snoc ls x r]; omega
theorem twiceL_le (ls : List (List Int)) : ∀ r, twiceL ls r ≤ 2 * r.length
  | [] => by simp [twiceL]
  | l :: r => by have := twiceL_le ls r; rw [twiceL, List.length_cons]; split <;> omega
theorem twiceL_next {ls L : List (List Int)} {j : Nat} (hj : j < L.length) : twiceL ls (L.take (j + 1)) = twiceL ls (L.take j) + (if safeL ls L[j] then 2 else 0) := by
  rw [List.take_succ_eq_append_getElem hj, twiceL_snoc]

/-- What is where the keeper is. -/
def effM (n x : Nat) : List Bool := (digits n x).map fun b => b == topBit n x
def effL (n : Nat) (l : List Int) : List Bool := (List.range n).map (has l)
/-- Both things of a danger are elsewhere. -/
def gone (e : List Bool) (d : List Int) : Bool := !e.getD (d.getD 0 0).toNat false && !e.getD (d.getD 1 0).toNat false
theorem gone_M {n x : Nat} {d : List Int} (hd : IsDg (n : Int) d) : leftBy (digits n x) (topBit n x) d = gone (effM n x) d := by
  obtain ⟨-, h0, h1, h2⟩ := hd
  have e : ∀ i, i < n → ((digits n x).getD i false != topBit n x) = !(effM n x).getD i false := fun i hi => by
    rw [effM, List.getD_eq_getElem?_getD, List.getD_eq_getElem?_getD, List.getElem?_map, List.getElem?_eq_getElem (by rw [digits_len]; exact hi)]
    rfl
  rw [leftBy, gone, e _ (by omega), e _ (by omega)]
theorem bs8_get (l : List Int) (i : Nat) (hi : i < 8) : (bs8 l).getD i false = has l i := by
  have : i = 0 ∨ i = 1 ∨ i = 2 ∨ i = 3 ∨ i = 4 ∨ i = 5 ∨ i = 6 ∨ i = 7 := by omega
  rcases this with rfl | rfl | rfl | rfl | rfl | rfl | rfl | rfl <;> rfl
theorem gone_L {n : Nat} {l : List Int} {d : List Int} (hn : n ≤ 8) (hd : IsDg (n : Int) d) : leftBy (bs8 l) true d = gone (effL n l) d := by
  obtain ⟨-, h0, h1, h2⟩ := hd
  have e : ∀ i, i < n → ((bs8 l).getD i false != true) = !(effL n l).getD i false := fun i hi => by
    rw [bs8_get l i (by omega), effL, List.getD_eq_getElem?_getD, List.getElem?_map, List.getElem?_range hi]
    show (has l i != true) = !has l i
    cases has l i <;> rfl
  rw [leftBy, gone, e _ (by omega), e _ (by omega)]
theorem same_perm {n : Nat} (hn : n ≤ 8) : ((List.range (2 ^ (n + 1))).map (effM n)).isPerm (([] :: upLists n n).map (effL n) ++ ([] :: upLists n n).map (effL n)) = true := by
  have h : ∀ n, n < 9 → ((List.range (2 ^ (n + 1))).map (effM n)).isPerm (([] :: upLists n n).map (effL n) ++ ([] :: upLists n n).map (effL n)) = true := by decide +kernel
  exact h n (by omega)
theorem any_same {α : Type} {p q : α → Bool} : ∀ {ls : List α}, (∀ d ∈ ls, p d = q d) → ls.any p = ls.any q
  | [], _ => rfl
  | a :: r, h => by rw [List.any_cons, List.any_cons, h a (List.mem_cons_self ..), any_same fun d hd => h d (List.mem_cons_of_mem _ hd)]
theorem twiceL_count {n : Nat} {ls : List (List Int)} (hn : n ≤ 8) (hd : ∀ d ∈ ls, IsDg (n : Int) d) : ∀ r : List (List Int), twiceL ls r = 2 * (r.map (effL n)).countP (fun e => !ls.any (gone e))
  | [] => rfl
  | l :: r => by
    rw [twiceL, List.map_cons, List.countP_cons, twiceL_count hn hd r, safeL, any_same fun d h => gone_L (l := l) hn (hd d h)]
    cases ls.any (gone (effL n l)) <;> simp <;> omega
theorem count_both {n : Nat} {ls : List (List Int)} (hn : n ≤ 8) (hd : ∀ d ∈ ls, IsDg (n : Int) d) : safeTo n ls (2 ^ (n + 1)) = twiceL ls ([] :: upLists n n) := by
  rw [twiceL_count hn hd]
  have h1 : safeTo n ls (2 ^ (n + 1)) = ((List.range (2 ^ (n + 1))).map (effM n)).countP (fun e => !ls.any (gone e)) := by
    rw [safeTo, ← List.countP_eq_length_filter, List.countP_map]
    refine List.countP_congr fun x _ => ?_
    show safeAt n ls x = true ↔ (!ls.any (gone (effM n x))) = true
    rw [safeAt, any_same fun d h => gone_M (x := x) (hd d h)]
  rw [h1, (List.isPerm_iff.1 (same_perm hn)).countP_eq, List.countP_append]
  omega

set_option maxHeartbeats 6400000 in
set_option maxRecDepth 100000 in
theorem implCountSafe_any (k s : Int) (A : Option Addr) (m c : Nat) (rs : List RowV) (w : World) (hA : Grid w A rs) (hx : rs.length = m) (hm : m ≤ 1048576) :
    Calls Try.prog 61 #[.agg #[.int .i64 k, .slice A m c, .int .i64 s]] w fun e w' => e = .returned (.tuple #[.int .i64 (countSafe k s (rowNums rs)), .bool (keepOk k s (rowNums rs))]) ∧ Below w.heap.size w w' := by
  have HX := Lib.hid hx
  clear hx
  have h0 := Whole.fresh w 69 #[.int .i64 k, .slice A m c, .int .i64 s]
  have hbw := below1 w (.cells #[.int .i64 k, .slice A m c, .int .i64 s] 69)
  have hA2 := hA.below hbw
  cases hk : keepOk k s (rowNums rs)
  · have HK := Lib.hid hk
    have HS : Hid (countSafe k s (rowNums rs) = 0) := by show _ = _; rw [countSafe, hk]; rfl
    clear hk
    go_enter Try.func61, Try.ntmps61
    go_wp2_with fail
    refine (isKeep_any k s A m c rs _ hA2 HX.out hm).mono ?_
    rintro e w1 ⟨rfl, hb⟩
    rw [HK.out]
    have ht := below_then hbw hb (by simp)
    clear hb
    go_wp2
    go_ret2
    exact ⟨by rw [HS.out]; rfl, ht⟩
  · obtain ⟨n, rfl⟩ : ∃ n : Nat, k = n := ⟨k.toNat, by have := (keepOk_iff.1 hk).1; omega⟩
    have hn8 : n ≤ 8 := by have := (keepOk_iff.1 hk).1; omega
    have HK := Lib.hid hk
    have HDG : Hid (∀ d ∈ rowNums rs, IsDg (n : Int) d) := fun d hd => by
      obtain ⟨j, hj, rfl⟩ := List.getElem_of_mem hd
      exact dg_at hk hj
    have HDA : Hid (DgAll (rowNums rs)) := keep_all hk
    have HS : Hid (countSafe (n : Int) s (rowNums rs) = (twiceL (rowNums rs) ([] :: upLists n n) : Nat)) := by show _ = _; rw [countSafe, hk, ← count_both hn8 HDG.out]; rfl
    have HSM : Hid (([] :: upLists n n).length ≤ 256) := by show _ ≤ _; have := upLists_small (m := n) hn8; rw [List.length_cons]; omega
    clear hk
    go_enter Try.func61, Try.ntmps61
    go_wp2_with fail
    refine (isKeep_any (n : Int) s A m c rs _ hA2 HX.out hm).mono ?_
    rintro e w1 ⟨rfl, hb⟩
    rw [HK.out]
    have h01 := h0.below hb
    have ht1 := below_then hbw hb (by simp)
    obtain ⟨z0, z1, z2⟩ := h01.cells3
    clear hb h0 hbw hA2
    go_wp2_with fail
    refine (loadsUpTo_any n n _ hn8 hn8).mono ?_
    rintro e w3 ⟨D, d, rfl, hown, hb⟩
    generalize ([] :: upLists n n : List (List Int)) = L at HS HSM hown
    have H0 := Lib.hid (h01.below hb)
    have HT := Lib.hid (below_then ht1 hb ht1.size)
    have HG := Lib.hid hA
    have HOWN := Lib.hid hown
    have hl0 := H0.out.lt
    have hl := HSM.out
    clear hb hown h01 ht1 hA z0 z1 z2
    go_wp2
    go_loopw [4, 16] (fun v i wr => ∃ j : Nat, j ≤ L.length ∧ i = .int .i64 j ∧ v = .int .i64 (twiceL (rowNums rs) (L.take j) : Nat) ∧ Below w3.heap.size w3 wr) (fun _ i _ => L.length - (intOf i).toNat)
    case atStart => exact ⟨0, Nat.zero_le _, rfl, by simp [twiceL], Below.refl _ _⟩
    case round =>
      obtain ⟨j, hj, rfl, rfl, hb⟩ := hrel
      have htl := twiceL_le (rowNums rs) (L.take j)
      have htk : (L.take j).length ≤ 256 := by rw [List.length_take]; omega
      by_cases hlt : j < L.length
      · have hr := ownsRow_below HOWN.out hb
        obtain ⟨g, rfl, hgl, a0, a1, a2, a3, a4, a5, a6, a7⟩ := crowdsK_row hr rfl hlt
        have hd : decide ((j : Int) < (L.length : Int)) = true := by simp; omega
        have HNX := Lib.hid (twiceL_next (ls := rowNums rs) hlt)
        have HB := Lib.hid hb
        obtain ⟨l, hll⟩ : ∃ l, l = L[j] := ⟨_, rfl⟩
        rw [← hll] at a0 a1 a2 a3 a4 a5 a6 a7 HNX
        have HP : Hid (placeCells (bs8 l) true = #[.bool (has l 0), .bool (has l 1), .bool (has l 2), .bool (has l 3), .bool (has l 4), .bool (has l 5), .bool (has l 6), .bool (has l 7), .bool true]) := rfl
        have hcall := fun W hG => isSafePlace_any (n : Int) s A m c rs (bs8 l) true W hG HX.out hm HDA.out
        rw [HP.out] at hcall
        have HC := Lib.hid hcall
        have HSL : Hid (safeL (rowNums rs) l = !(rowNums rs).any (leftBy (bs8 l) true)) := rfl
        have hbK := Lib.hid (below_then HT.out hb HT.out.size)
        obtain ⟨z0, z1, z2⟩ := (((H0.out.below hb)).alloc (.cells #[.bool (has l 0), .bool (has l 1), .bool (has l 2), .bool (has l 3), .bool (has l 4), .bool (has l 5), .bool (has l 6), .bool (has l 7)] 81)).cells3
        clear hr hb hcall hll
        go_wp2_with fail
        refine (HC.out _ (by exact HG.out.below (hbK.out.alloc hbK.out.size _))).mono ?_
        rintro e w4 ⟨rfl, hb⟩
        rw [← HSL.out]
        have hbb := HB.out.alloc HB.out.size (.cells #[.bool (has l 0), .bool (has l 1), .bool (has l 2), .bool (has l 3), .bool (has l 4), .bool (has l 5), .bool (has l 6), .bool (has l 7)] 81)
        have HBB := Lib.hid (below_then hbb hb hbb.size)
        clear hb hbb a0 a1 a2 a3 a4 a5 a6 a7 z0 z1 z2
        cases hsl : safeL (rowNums rs) l
        · have HSF := Lib.hid hsl
          clear hsl
          go_wp2
          go_roundw
          case rel => exact ⟨j + 1, by omega, by go_num, by rw [HNX.out, HSF.out]; simp, HBB.out⟩
          case measure => simp [intOf]; omega
        · have HSF := Lib.hid hsl
          have hw2 : IntKind.i64.wrap (((twiceL (rowNums rs) (L.take j) : Nat) : Int) + 2) = ((twiceL (rowNums rs) (L.take j) : Nat) : Int) + 2 := IntWalk.i64_in _ (by omega)
          clear hsl
          go_wp2
          go_roundw
          case rel => exact ⟨j + 1, by omega, by go_num, by rw [HNX.out, HSF.out]; simp, HBB.out⟩
          case measure => simp [intOf]; omega
      · obtain rfl : j = L.length := by omega
        have HTK : Hid (L.take L.length = L) := by show _ = _; simp
        rw [HTK.out]
        have HBB := Lib.hid (below_then HT.out hb HT.out.size)
        clear hb
        go_wp2
        go_ret2
        exact ⟨by rw [HS.out]; rfl, HBB.out⟩

theorem specCountSafe_on (k s : Int) (A : Option Addr) (m c : Nat) (rs : List RowV) (ls : List (List Int)) (w : World) (hA : Grid w A rs) (he : rowNums rs = ls) (hx : rs.length = m) (hm : m ≤ 1048576) :
    Calls Try.prog 60 #[.agg #[.int .i64 k, .slice A m c, .int .i64 s]] w fun e w' => e = .returned (.tuple #[.int .i64 (countSafe k s ls), .bool (keepOk k s ls)]) ∧ Below w.heap.size w w' :=
  he ▸ specCountSafe_any k s A m c rs w hA hx hm
theorem implCountSafe_on (k s : Int) (A : Option Addr) (m c : Nat) (rs : List RowV) (ls : List (List Int)) (w : World) (hA : Grid w A rs) (he : rowNums rs = ls) (hx : rs.length = m) (hm : m ≤ 1048576) :
    Calls Try.prog 61 #[.agg #[.int .i64 k, .slice A m c, .int .i64 s]] w fun e w' => e = .returned (.tuple #[.int .i64 (countSafe k s ls), .bool (keepOk k s ls)]) ∧ Below w.heap.size w w' :=
  he ▸ implCountSafe_any k s A m c rs w hA hx hm
end Go.Proofs.Ytcikimjpjebflaa

namespace Go.Proofs.Ytcikimjpjebflaa
open Go.RowKit

def better (p : List Int → Bool) (b l : List Int) : List Int := if l.length < b.length ∧ p l = true then l else b
/-- The list that is the best behind some. -/
def bestOf (p : List Int → Bool) (b : List Int) (L : List (List Int)) : List Int := L.foldl (better p) b
theorem bestOf_snoc (p : List Int → Bool) (b x : List Int) (L : List (List Int)) : bestOf p b (L ++ [x]) = better p (bestOf p b L) x := by simp [bestOf, List.foldl_append]
def AsLen (p : List Int → Bool) (k : Nat) (l : List Int) : Bool := p l && l.length == k
theorem bestOf_is (p : List Int → Bool) : ∀ (L : List (List Int)) (b : List Int), (bestOf p b L).length ≤ b.length ∧ (∀ l ∈ L, p l = true → (bestOf p b L).length ≤ l.length) ∧
    (bestOf p b L = b ∨ ((bestOf p b L).length < b.length ∧ L.find? (AsLen p (bestOf p b L).length) = some (bestOf p b L)))
  | [], b => ⟨Nat.le_refl _, fun l h => by simp at h, .inl rfl⟩
  | x :: L, b => by
    have hr : bestOf p b (x :: L) = bestOf p (better p b x) L := rfl
    obtain ⟨h1, h2, h3⟩ := bestOf_is p L (better p b x)
    rw [← hr] at h1 h2 h3
    generalize bestOf p b (x :: L) = r at *
    by_cases hc : x.length < b.length ∧ p x = true
    · rw [better, if_pos hc] at h1 h3
      refine ⟨by omega, fun l hl hp => ?_, .inr ⟨by omega, ?_⟩⟩
      · rcases List.mem_cons.1 hl with rfl | hl
        · exact h1
        · exact h2 l hl hp
      · rcases h3 with rfl | ⟨h3, h4⟩
        · rw [List.find?_cons_of_pos (by simp [AsLen, hc.2])]
        · rw [List.find?_cons_of_neg (by simp [AsLen]; intro _; omega)]
          exact h4
    · rw [better, if_neg hc] at h1 h3
      refine ⟨h1, fun l hl hp => ?_, ?_⟩
      · rcases List.mem_cons.1 hl with rfl | hl
        · have : ¬ l.length < b.length := fun h => hc ⟨h, hp⟩
          omega
        · exact h2 l hl hp
      · rcases h3 with rfl | ⟨h3, h4⟩
        · exact .inl rfl
        · refine .inr ⟨h3, ?_⟩
          rw [List.find?_cons_of_neg (by simp [AsLen]; intro hp; have : ¬ x.length < b.length := fun h => hc ⟨h, hp⟩; omega)]
          exact h4
/-- All lists of at most so many of the things: the first one is that of nothing. -/
def loads (n m : Nat) : List (List Int) := [] :: upLists n m
theorem loads_at {n m : Nat} (hn : n ≤ 8) (hm : m ≤ n) : loads n m = (loads n n).filter fun l => decide (l.length ≤ m) := by
  have h : ∀ n, n < 9 → ∀ m, m < n + 1 → loads n m = (loads n n).filter fun l => decide (l.length ≤ m) := by decide +kernel
  exact h n (by omega) m (by omega)
theorem loads_full {n : Nat} (hn : n ≤ 8) : ∀ l ∈ loads n n, l.length = n → l = firsts n := by
  have h : ∀ n, n < 9 → (loads n n).all (fun l => l.length != n || l == firsts n) = true := by decide +kernel
  intro l hl hle
  have := List.all_eq_true.1 (h n (by omega)) l hl
  simpa [hle] using this
theorem loads_firsts {n : Nat} (hn : n ≤ 8) : firsts n ∈ loads n n := by
  have h : ∀ n, n < 9 → (loads n n).contains (firsts n) = true := by decide +kernel
  simpa using h n (by omega)
theorem find_same {p q : List Int → Bool} : ∀ {L : List (List Int)}, (∀ l ∈ L, p l = q l) → L.find? p = L.find? q
  | [], _ => rfl
  | x :: L, h => by
    rw [List.find?_cons, List.find?_cons, h x (List.mem_cons_self ..), find_same fun l hl => h l (List.mem_cons_of_mem _ hl)]
/-- What the program finds among the lists of at most m things, when there is none among those of fewer, is the model's. -/
theorem best_found {n m : Nat} {p : List Int → Bool} {l : List Int} (hn : n ≤ 8) (hm : m ≤ n) (hno : ∀ k, k < m → ∀ x ∈ loads n k, p x = false) (hl : (loads n m).find? p = some l) : bestOf p (firsts n) (loads n n) = l := by
  obtain ⟨h1, h2, h3⟩ := bestOf_is p (loads n n) (firsts n)
  have hp : p l = true := List.find?_some hl
  have hmem := List.mem_of_find?_eq_some hl
  rw [loads_at hn hm, List.mem_filter] at hmem
  obtain ⟨hmem, hle⟩ := hmem
  have hle' : l.length ≤ m := by simpa using hle
  have hexact : ∀ x ∈ loads n n, p x = true → m ≤ x.length := fun x hx hpx => by
    rcases Nat.lt_or_ge x.length m with h | h
    · have hx2 : x ∈ loads n x.length := by
        rw [loads_at hn (by omega), List.mem_filter]
        exact ⟨hx, by simp⟩
      rw [hno x.length h x hx2] at hpx
      cases hpx
    · exact h
  have hlm : l.length = m := by have := hexact l hmem hp; omega
  have hrm := h2 l hmem hp
  generalize bestOf p (firsts n) (loads n n) = r at *
  rcases h3 with rfl | ⟨h3, h4⟩
  · rw [firsts_len] at hrm
    exact (loads_full hn l hmem (by omega)).symm
  · have hpr := List.find?_some h4
    have hmr := List.mem_of_find?_eq_some h4
    have hpr' : p r = true := by simp [AsLen] at hpr; exact hpr
    have hrl := hexact r hmr hpr'
    have hrm2 : r.length = m := by omega
    rw [loads_at hn hm, List.find?_filter] at hl
    rw [hrm2] at h4
    have hsame : (loads n n).find? (AsLen p m) = (loads n n).find? (fun a => decide (decide (a.length ≤ m) = true ∧ p a = true)) := find_same fun x hx => by
      rw [Bool.eq_iff_iff]
      simp only [AsLen, Bool.and_eq_true, beq_iff_eq, decide_eq_true_eq]
      constructor
      · rintro ⟨a, b⟩; exact ⟨by omega, a⟩
      · rintro ⟨a, b⟩; exact ⟨b, by have := hexact x hx b; omega⟩
    rw [hsame, hl] at h4
    exact (Option.some.inj h4).symm
theorem find_at {p : List Int → Bool} {L : List (List Int)} {j : Nat} (hj : j < L.length) (hno : ∀ i, i < j → p (L.getD i []) = false) (hp : p L[j] = true) : L.find? p = some L[j] := by
  induction L generalizing j with
  | nil => simp at hj
  | cons x L ih =>
    cases j with
    | zero =>
      have hp' : p x = true := hp
      rw [List.find?_cons_of_pos hp']
      rfl
    | succ j =>
      have h0 := hno 0 (by omega)
      rw [List.find?_cons_of_neg (by simpa using h0)]
      exact ih (by simpa using hj) (fun i hi => by simpa using hno (i + 1) (by omega)) (by simpa using hp)
theorem none_all {p : List Int → Bool} {L : List (List Int)} (hno : ∀ i, i < L.length → p (L.getD i []) = false) : ∀ x ∈ L, p x = false := fun x hx => by
  obtain ⟨i, hi, rfl⟩ := List.getElem_of_mem hx
  simpa [List.getD_eq_getElem?_getD, List.getElem?_eq_getElem hi] using hno i hi

/-- Is one of the two things of a danger in a list? -/
def hit (l : List Int) (d : List Int) : Bool := l.contains (d.getD 0 0) || l.contains (d.getD 1 0)
theorem hit_safe {n : Nat} {ls : List (List Int)} {l : List Int} (hn : n ≤ 8) (hd : ∀ d ∈ ls, IsDg (n : Int) d) : ls.all (hit l) = safeL ls l := by
  rw [safeL, List.not_any_eq_all_not]
  have : ∀ d ∈ ls, hit l d = !leftBy (bs8 l) true d := fun d hdd => by
    obtain ⟨-, h0, h1, h2⟩ := hd d hdd
    have e : ∀ x : Int, 0 ≤ x → x < 8 → l.contains x = !((bs8 l).getD x.toNat false != true) := fun x hx0 hx8 => by
      obtain ⟨i, rfl⟩ := Int.eq_ofNat_of_zero_le hx0
      rw [Int.toNat_natCast, bs8_get l i (by omega)]
      have : l.contains (i : Int) = has l i := by
        rw [Bool.eq_iff_iff, has_iff]
        simp
      rw [this]
      cases has l i <;> rfl
    rw [hit, leftBy, e _ h0 (by omega), e _ (by omega) (by omega)]
    cases ((bs8 l).getD (d.getD 0 0).toNat false != true) <;> cases ((bs8 l).getD (d.getD 1 0).toNat false != true) <;> rfl
  clear hd
  induction ls with
  | nil => rfl
  | cons d ls ih => rw [List.all_cons, List.all_cons, this d (List.mem_cons_self ..), ih fun x hx => this x (List.mem_cons_of_mem _ hx)]
theorem safe_firsts {n : Nat} {ls : List (List Int)} (hn : n ≤ 8) (hd : ∀ d ∈ ls, IsDg (n : Int) d) : safeL ls (firsts n) = true := by
  rw [← hit_safe hn hd, List.all_eq_true]
  intro d hdd
  obtain ⟨-, h0, h1, h2⟩ := hd d hdd
  have : (firsts n).contains (d.getD 0 0) = true := by
    simp only [firsts, List.contains_iff_mem, List.mem_map, List.mem_range]
    exact ⟨(d.getD 0 0).toNat, by omega, by show ((d.getD 0 0).toNat : Int) = _; omega⟩
  rw [hit, this]
  rfl
noncomputable def watchedK (k s : Int) (ls : List (List Int)) : List Int := if keepOk k s ls then bestOf (safeL ls) (firsts k.toNat) (loads k.toNat k.toNat) else []
theorem watchedK_le (k s : Int) (ls : List (List Int)) : (watchedK k s ls).length ≤ 1048576 := by
  unfold watchedK
  split
  · rename_i h
    have h1 := (keepOk_iff.1 h).1
    have := (bestOf_is (safeL ls) (loads k.toNat k.toNat) (firsts k.toNat)).1
    rw [firsts_len] at this
    omega
  · simp
end Go.Proofs.Ytcikimjpjebflaa

namespace Go.Proofs.Ytcikimjpjebflaa
open Go.RowKit

/-- What a call hands back that makes a list of numbers and tells whether it did. -/
def WatchPost (xs : List Int) (ok : Bool) (w : World) (e : Ending) (w' : World) : Prop :=
  ∃ (A : Option Addr) (c : Nat), e = .returned (.tuple #[.slice A xs.length c, .bool ok]) ∧ Fresh w' w.heap.size w'.heap.size 3 A (nums xs) ∧ Below w.heap.size w w'
theorem WatchPost.no {w w' : World} (h : Below w.heap.size w w') : WatchPost [] false w (.returned (.tuple #[.slice none 0 0, .bool false])) w' := ⟨none, 0, rfl, .inl rfl, h⟩
theorem loads_steps {n m : Nat} {l : List Int} (h : l ∈ loads n m) : StepsTo l ((n : Int) - 1) l.length := by
  rcases List.mem_cons.1 h with rfl | h
  · exact StepsTo.start _ _
  · exact (up_steps h).1

set_option maxHeartbeats 6400000 in
set_option maxRecDepth 100000 in
theorem implLeastWatched_any (k s : Int) (A : Option Addr) (m c : Nat) (rs : List RowV) (w : World) (hA : Grid w A rs) (hx : rs.length = m) (hm : m ≤ 1048576) :
    Calls Try.prog 57 #[.agg #[.int .i64 k, .slice A m c, .int .i64 s]] w (WatchPost (watchedK k s (rowNums rs)) (keepOk k s (rowNums rs)) w) := by
  have HX := Lib.hid hx
  clear hx
  have h0 := Whole.fresh w 69 #[.int .i64 k, .slice A m c, .int .i64 s]
  have hbw := below1 w (.cells #[.int .i64 k, .slice A m c, .int .i64 s] 69)
  have hA2 := hA.below hbw
  cases hk : keepOk k s (rowNums rs)
  · have HK := Lib.hid hk
    have HS : Hid (watchedK k s (rowNums rs) = []) := by show _ = _; rw [watchedK, hk]; rfl
    clear hk
    go_enter Try.func57, Try.ntmps57
    go_wp2_with fail
    refine (isKeep_any k s A m c rs _ hA2 HX.out hm).mono ?_
    rintro e w1 ⟨rfl, hb⟩
    rw [HK.out]
    have ht := below_then hbw hb (by simp)
    clear hb
    go_wp2
    go_ret2
    rw [HS.out]
    exact WatchPost.no ht
  · obtain ⟨n, rfl⟩ : ∃ n : Nat, k = n := ⟨k.toNat, by have := (keepOk_iff.1 hk).1; omega⟩
    have hn8 : n ≤ 8 := by have := (keepOk_iff.1 hk).1; omega
    have HK := Lib.hid hk
    have HDG : Hid (∀ d ∈ rowNums rs, IsDg (n : Int) d) := fun d hd => by
      obtain ⟨j, hj, rfl⟩ := List.getElem_of_mem hd
      exact dg_at hk hj
    have HDA : Hid (DgAll (rowNums rs)) := keep_all hk
    have HS : Hid (watchedK (n : Int) s (rowNums rs) = bestOf (safeL (rowNums rs)) (firsts n) (loads n n)) := by show _ = _; rw [watchedK, hk]; rfl
    have hnw : IntKind.i64.wrap ((n : Int) + 1) = (n : Int) + 1 := IntWalk.i64_in _ (by omega)
    clear hk
    go_enter Try.func57, Try.ntmps57
    go_wp2_with fail
    refine (isKeep_any (n : Int) s A m c rs _ hA2 HX.out hm).mono ?_
    rintro e w1 ⟨rfl, hb⟩
    rw [HK.out]
    have H0 := Lib.hid (h0.below hb)
    have HT := Lib.hid (below_then hbw hb (by simp))
    have HG := Lib.hid hA
    obtain ⟨z0, z1, z2⟩ := H0.out.cells3
    clear hb h0 hbw hA hA2
    go_wp2
    clear z0 z1 z2
    go_loopw [13] (fun i wr => ∃ q : Nat, q ≤ n + 1 ∧ i = .int .i64 q ∧ (∀ x, x < q → ∀ l ∈ loads n x, safeL (rowNums rs) l = false) ∧ Whole wr w.heap.size 69 #[.int .i64 (n : Int), .slice A m c, .int .i64 s] ∧ Below w.heap.size w wr) (fun i _ => n + 1 - (intOf i).toNat)
    case atStart => exact ⟨0, Nat.zero_le _, rfl, fun x h => by omega, H0.out, HT.out⟩
    case round =>
      clear H0 HT
      obtain ⟨q, hq, rfl, hno, h0, hb⟩ := hrel
      have HNO := Lib.hid hno
      clear hno
      by_cases hlt : q < n + 1
      · have hd : decide ((q : Int) < (n : Int) + 1) = true := by simp; omega
        obtain ⟨z0, z1, z2⟩ := h0.cells3
        go_wp2_with fail
        refine (loadsUpTo_any n q _ hn8 (by omega)).mono ?_
        rintro e w3 ⟨D, d, rfl, hown, hb3⟩
        have HIN : Hid (∀ l ∈ loads n q, StepsTo l ((n : Int) - 1) l.length) := fun l h => loads_steps h
        have HFD : Hid (∀ l, (loads n q).find? (safeL (rowNums rs)) = some l → bestOf (safeL (rowNums rs)) (firsts n) (loads n n) = l) := fun l h => best_found hn8 (by omega) HNO.out h
        have HSM : Hid ((loads n q).length ≤ 256) := by show _ ≤ _; have := upLists_small (m := q) hn8; rw [loads, List.length_cons]; omega
        have HNX : Hid ((∀ i, i < (loads n q).length → safeL (rowNums rs) ((loads n q).getD i []) = false) → ∀ x, x < q + 1 → ∀ l ∈ loads n x, safeL (rowNums rs) l = false) := fun h x hx => by
          rcases Nat.lt_succ_iff_lt_or_eq.1 hx with h1 | rfl
          · exact HNO.out x h1
          · exact none_all h
        change w3.ownsRow _ _ _ (.slice D (loads n q).length d) (loads n q).length (crowdsOf (loads n q)) at hown
        rw [show ([] :: upLists n q : List (List Int)) = loads n q from rfl]
        generalize loads n q = L at HIN HFD HSM HNX hown
        have H0 := Lib.hid (h0.below hb3)
        have HT := Lib.hid (below_then hb hb3 hb.size)
        have HOWN := Lib.hid hown
        have hl := HSM.out
        clear hb hown h0 hb3 z0 z1 z2 HNO
        go_wp2
        go_loopw [21] (fun i wr => ∃ j : Nat, j ≤ L.length ∧ i = .int .i64 j ∧ (∀ x, x < j → safeL (rowNums rs) (L.getD x []) = false) ∧ Below w3.heap.size w3 wr) (fun i _ => L.length - (intOf i).toNat)
        case atStart => exact ⟨0, Nat.zero_le _, rfl, fun x h => by omega, Below.refl _ _⟩
        case round =>
          obtain ⟨j, hj, rfl, hnj, hb⟩ := hrel
          have HNJ := Lib.hid hnj
          clear hnj
          by_cases hlt2 : j < L.length
          · have hr := ownsRow_below HOWN.out hb
            obtain ⟨g, rfl, hgl, a0, a1, a2, a3, a4, a5, a6, a7⟩ := crowdsK_row hr rfl hlt2
            have hd2 : decide ((j : Int) < (L.length : Int)) = true := by simp; omega
            have HB := Lib.hid hb
            have HST := Lib.hid (HIN.out _ (List.getElem_mem hlt2))
            have HFJ : Hid (safeL (rowNums rs) L[j] = true → bestOf (safeL (rowNums rs)) (firsts n) (loads n n) = L[j]) := fun h => HFD.out _ (find_at hlt2 HNJ.out h)
            have HGD : Hid (L.getD j [] = L[j]) := by show _ = _; rw [List.getD_eq_getElem?_getD, List.getElem?_eq_getElem hlt2]; rfl
            obtain ⟨l, hll⟩ : ∃ l, l = L[j] := ⟨_, rfl⟩
            rw [← hll] at a0 a1 a2 a3 a4 a5 a6 a7 HST HFJ HGD
            have HP : Hid (placeCells (bs8 l) true = #[.bool (has l 0), .bool (has l 1), .bool (has l 2), .bool (has l 3), .bool (has l 4), .bool (has l 5), .bool (has l 6), .bool (has l 7), .bool true]) := rfl
            have hcall := fun W hG => isSafePlace_any (n : Int) s A m c rs (bs8 l) true W hG HX.out hm HDA.out
            rw [HP.out] at hcall
            have HC := Lib.hid hcall
            have hlist := fun W => list_any l ((n : Int) - 1) W HST.out (by omega)
            unfold crowdCells at hlist
            have HL := Lib.hid hlist
            have HSL : Hid (safeL (rowNums rs) l = !(rowNums rs).any (leftBy (bs8 l) true)) := rfl
            have hbK := Lib.hid (below_then HT.out hb HT.out.size)
            have hcr := Whole.fresh wr 81 #[.bool (has l 0), .bool (has l 1), .bool (has l 2), .bool (has l 3), .bool (has l 4), .bool (has l 5), .bool (has l 6), .bool (has l 7)]
            obtain ⟨z0, z1, z2⟩ := (((H0.out.below hb)).alloc (.cells #[.bool (has l 0), .bool (has l 1), .bool (has l 2), .bool (has l 3), .bool (has l 4), .bool (has l 5), .bool (has l 6), .bool (has l 7)] 81)).cells3
            clear hr hb hcall hll hlist
            go_wp2_with fail
            refine (HC.out _ (by exact HG.out.below (hbK.out.alloc hbK.out.size _))).mono ?_
            rintro e w4 ⟨rfl, hb⟩
            rw [← HSL.out]
            have hbb := HB.out.alloc HB.out.size (.cells #[.bool (has l 0), .bool (has l 1), .bool (has l 2), .bool (has l 3), .bool (has l 4), .bool (has l 5), .bool (has l 6), .bool (has l 7)] 81)
            have HBB := Lib.hid (below_then hbb hb hbb.size)
            have hcr4 := hcr.below hb
            clear hb hbb a0 a1 a2 a3 a4 a5 a6 a7 z0 z1 z2 hcr
            cases hsl : safeL (rowNums rs) l
            · have HSF := Lib.hid hsl
              clear hsl hcr4
              go_wp2
              go_roundw
              case rel => exact ⟨j + 1, by omega, by go_num, fun x hx => by
                rcases Nat.lt_succ_iff_lt_or_eq.1 hx with h | rfl
                · exact HNJ.out x h
                · rw [HGD.out]; exact HSF.out, HBB.out⟩
              case measure => simp [intOf]; omega
            · have HBO := Lib.hid (HFJ.out hsl)
              have b0 := hcr4.cell 0
              have b1 := hcr4.cell 1
              have b2 := hcr4.cell 2
              have b3 := hcr4.cell 3
              have b4 := hcr4.cell 4
              have b5 := hcr4.cell 5
              have b6 := hcr4.cell 6
              have b7 := hcr4.cell 7
              replace b0 : World.cell? _ _ = some (Value.bool (has l 0)) := b0
              replace b1 : World.cell? _ _ = some (Value.bool (has l 1)) := b1
              replace b2 : World.cell? _ _ = some (Value.bool (has l 2)) := b2
              replace b3 : World.cell? _ _ = some (Value.bool (has l 3)) := b3
              replace b4 : World.cell? _ _ = some (Value.bool (has l 4)) := b4
              replace b5 : World.cell? _ _ = some (Value.bool (has l 5)) := b5
              replace b6 : World.cell? _ _ = some (Value.bool (has l 6)) := b6
              replace b7 : World.cell? _ _ = some (Value.bool (has l 7)) := b7
              clear hsl hcr4
              go_wp2_with fail
              refine (HL.out _).mono ?_
              rintro e w5 ⟨E, r, rfl, hown5, hb5⟩
              have hs3 : w.heap.size ≤ w3.heap.size := HT.out.size
              have hs4 : w3.heap.size ≤ w4.heap.size := HBB.out.size
              have HBE := Lib.hid (below_then (below_then HT.out HBB.out HT.out.size) hb5 (by omega))
              have HF := Lib.hid (Fresh.of_own hown5 (Nat.le_refl _))
              clear hown5 hb5 b0 b1 b2 b3 b4 b5 b6 b7
              go_wp2
              go_ret2
              rw [HS.out, HBO.out]
              obtain ⟨E', r', hv, hf⟩ := HF.out
              simp only [Value.slice.injEq, true_and] at hv
              obtain ⟨rfl, rfl⟩ := hv
              exact ⟨E, r, rfl, hf.more (by omega) (Nat.le_refl _), HBE.out⟩
          · have hjn : j = L.length := by omega
            have hd2 : decide ((j : Int) < (L.length : Int)) = false := by simp; omega
            have HQ := Lib.hid (HNX.out fun i hi => HNJ.out i (by omega))
            have HBB := Lib.hid (below_then HT.out hb HT.out.size)
            have H02 := Lib.hid (H0.out.below hb)
            clear hb
            go_wp2
            go_roundw
            case rel => exact ⟨q + 1, by omega, by go_num, HQ.out, H02.out, HBB.out⟩
            case measure => simp [intOf]; omega
      · exfalso
        have h := HNO.out n (by omega) _ (loads_firsts hn8)
        rw [safe_firsts hn8 HDG.out] at h
        cases h
end Go.Proofs.Ytcikimjpjebflaa
