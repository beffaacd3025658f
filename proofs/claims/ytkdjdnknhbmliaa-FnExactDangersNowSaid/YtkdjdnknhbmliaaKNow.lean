/-
  What is proved: contracts of the model's dangers in a bank (keAsked, keNow, IsSafe, DangersNow). Conditions: the arguments are read as they lie.
-/
import Derived.Test.YtkdjdnknhbmliaaKSafe
import Derived.Test.YtkdjdnknhbmliaaHeads
import Derived.Test.YtkdjdnknhbmliaaRowsP
namespace Go.Proofs.Ytkdjdnknhbmliaa
open Go.RowKit

theorem below_undrewN {w w' : World} {j : Nat} (h : Below (w.drewN j).heap.size (w.drewN j) w') : Below w.heap.size w w' :=
  below_then (below_draws (Below.refl w.heap.size w) j) h (below_draws (Below.refl w.heap.size w) j).size
theorem whole_grown {w w' : World} {g : Nat} {ty : TypeId} {cs : Array Value} {row : Option Nat} (h : Whole w g ty cs) (hg : w.grownBy w' row) (hne : row ≠ some g) : Whole w' g ty cs := (hg.block g h.lt (fun e => hne e.symm)).trans h
theorem now_yes {bs : List Bool} {t : Bool} {ds : List (List Int)} {j : Nat} {d : List Int} (hj : j < ds.length) (hd : ds.getD j [] = d) (h : leftBy bs t d = true) : nowOf bs t (ds.take (j + 1)) = nowOf bs t (ds.take j) ++ [d] := by
  rw [List.getD_eq_getElem?_getD, List.getElem?_eq_getElem hj] at hd
  simp only [Option.getD_some] at hd
  rw [List.take_succ_eq_append_getElem hj, nowOf, List.filter_append, hd]
  simp [nowOf, h]
theorem now_no {bs : List Bool} {t : Bool} {ds : List (List Int)} {j : Nat} {d : List Int} (hj : j < ds.length) (hd : ds.getD j [] = d) (h : leftBy bs t d = false) : nowOf bs t (ds.take (j + 1)) = nowOf bs t (ds.take j) := by
  rw [List.getD_eq_getElem?_getD, List.getElem?_eq_getElem hj] at hd
  simp only [Option.getD_some] at hd
  rw [List.take_succ_eq_append_getElem hj, nowOf, List.filter_append, hd]
  simp [nowOf, h]
theorem now_some {bs : List Bool} {t : Bool} {ds : List (List Int)} : ds.any (leftBy bs t) = decide (0 < (nowOf bs t ds).length) := by
  by_cases h : ds.any (leftBy bs t) = true
  · rw [h]
    obtain ⟨d, hd, hl⟩ := List.any_eq_true.1 h
    have : d ∈ nowOf bs t ds := List.mem_filter.2 ⟨hd, hl⟩
    have := List.length_pos_of_mem this
    simp; omega
  · have h' : ds.any (leftBy bs t) = false := by simpa using h
    rw [h', nowOf, List.filter_eq_nil_iff.2 (by rw [List.any_eq_false] at h'; simpa using h')]
    rfl


set_option maxHeartbeats 1600000 in
theorem keAsked_any (k s : Int) (A B : Option Addr) (m c q z : Nat) (rs : List RowV) (bs : List Bool) (t : Bool) (w : World) (hA : Grid w A rs) (hB : Holds w B (bits bs)) (hx : rs.length = m) (hm : m ≤ 1048576) (hy : bs.length = q) (hq : q ≤ 1048576) :
    Calls Try.prog 87 #[.agg #[.int .i64 k, .slice A m c, .int .i64 s], .agg #[.slice B q z, .bool t]] w fun e w' => e = .returned (.bool (asked k s (rowNums rs) bs)) ∧ Below w.heap.size w w' := by
  have HX := Lib.hid hx
  have HY := Lib.hid hy
  have h0 := (Whole.fresh w 54 #[.int .i64 k, .slice A m c, .int .i64 s]).alloc (.cells #[.slice B q z, .bool t] 63)
  have h1 := Whole.fresh (w.alloc (.cells #[.int .i64 k, .slice A m c, .int .i64 s] 54)) 63 #[.slice B q z, .bool t]
  rw [World.size_alloc] at h1
  have hbw := below2 w (.cells #[.int .i64 k, .slice A m c, .int .i64 s] 54) (.cells #[.slice B q z, .bool t] 63)
  have hA2 := hA.below hbw
  have hB2 := hB.below hbw
  clear hx
  cases hk : keepOk k s (rowNums rs)
  · have HQ : Hid (asked k s (rowNums rs) bs = false) := by show _ = _; simp [asked, hk]
    have HK := Lib.hid hk
    clear hk hy
    go_enter Try.func87, Try.ntmps87
    go_wp2_with fail
    refine (keGood_any k s A m c rs _ hA2 HX.out hm).mono ?_
    rintro e w1 ⟨rfl, hb⟩
    rw [HK.out]
    have ht := below_then hbw hb (by simp; omega)
    go_wp2
    go_ret
    exact ⟨ret_of (by rw [HQ.out]; rfl), ht⟩
  · have HQ : Hid (asked k s (rowNums rs) bs = ((q : Int) == k)) := by
      show _ = _
      rw [asked, hk, hy, Bool.true_and]
      by_cases h : (q : Int) = k <;> simp [h]
    have HK := Lib.hid hk
    clear hk hy
    go_enter Try.func87, Try.ntmps87
    go_wp2_with fail
    refine (keGood_any k s A m c rs _ hA2 HX.out hm).mono ?_
    rintro e w1 ⟨rfl, hb⟩
    rw [HK.out]
    have ht := below_then hbw hb (by simp; omega)
    obtain ⟨f0, f1, f2⟩ := (h0.below hb).cells3
    obtain ⟨g0, g1, -, -⟩ := (h1.below hb).two
    go_wp2
    go_ret
    exact ⟨ret_of (by rw [HQ.out]; rfl), ht⟩

/-- What a call hands back that makes a list of lists. -/
def GridRes (ls : List (List Int)) (lo : Nat) (w : World) (e : Ending) (w' : World) : Prop :=
  ∃ (A : Option Addr) (c : Nat) (rs : List RowV), e = .returned (.slice A rs.length c) ∧ rowNums rs = ls ∧ Heads w' lo A c rs ∧ Below w.heap.size w w'

set_option maxHeartbeats 6400000 in
set_option maxRecDepth 100000 in
theorem keNow_any (k s : Int) (A B : Option Addr) (m c q z : Nat) (rs : List RowV) (bs : List Bool) (t : Bool) (w : World) (hA : Grid w A rs) (hB : Holds w B (bits bs)) (hx : rs.length = m) (hm : m ≤ 1048576) (hy : bs.length = q) (hq : q ≤ 1048576) (hd : ∀ d ∈ rowNums rs, IsDg (q : Int) d) :
    Calls Try.prog 88 #[.agg #[.int .i64 k, .slice A m c, .int .i64 s], .agg #[.slice B q z, .bool t]] w (GridRes (nowOf bs t (rowNums rs)) (w.heap.size + 1 + 1) w) := by
  obtain ⟨i0, hi, hz0, hz1, hz2⟩ := info_parts info_row
  have HI := Lib.hid hi
  have HZ0 := Lib.hid hz0
  have HZ1 := Lib.hid hz1
  have HZ2 := Lib.hid hz2
  clear hi hz0 hz1 hz2
  subst hx
  have HY := Lib.hid hy
  have HD := Lib.hid hd
  have HLS := Lib.hid (rowNums_len rs)
  have h0 := (Whole.fresh w 54 #[.int .i64 k, .slice A rs.length c, .int .i64 s]).alloc (.cells #[.slice B q z, .bool t] 63)
  have h1 := Whole.fresh (w.alloc (.cells #[.int .i64 k, .slice A rs.length c, .int .i64 s] 54)) 63 #[.slice B q z, .bool t]
  rw [World.size_alloc] at h1
  have hbw := below2 w (.cells #[.int .i64 k, .slice A rs.length c, .int .i64 s] 54) (.cells #[.slice B q z, .bool t] 63)
  have hA2 := hA.below hbw
  have hB2 := hB.below hbw

  have HG := Lib.hid hA
  have HBT := Lib.hid hB
  obtain ⟨f0, f1, f2⟩ := h0.cells3
  clear hA hB hA2 hB2 hy hd
  go_enter Try.func88, Try.ntmps88
  go_wp2
  go_loopw [5, 11] (fun v i wr => ∃ (j : Nat) (E : Option Addr) (d : Nat) (acc : List RowV), j ≤ rs.length ∧ i = .int .i64 j ∧ v = .slice E acc.length d ∧ rowNums acc = nowOf bs t ((rowNums rs).take j) ∧ Heads wr (w.heap.size + 1 + 1) E d acc ∧ Whole wr w.heap.size 54 #[.int .i64 k, .slice A rs.length c, .int .i64 s] ∧ Whole wr (w.heap.size + 1) 63 #[.slice B q z, .bool t] ∧ Below w.heap.size w wr) (fun _ i _ => rs.length - (intOf i).toNat)
  case atStart => exact ⟨0, none, 0, [], Nat.zero_le _, rfl, rfl, by simp [nowOf, rowNums], Heads.nil _ _, h0, h1, hbw⟩
  case round =>
    clear f0 f1 f2 h0 h1 hbw
    obtain ⟨j, E, d, acc, hj, rfl, rfl, hra, hh, h0, h1, hb⟩ := hrel
    have hacc : acc.length ≤ 1048576 := by have h2 := congrArg List.length hra; rw [rowNums_len] at h2; have h3 := nowOf_len bs t ((rowNums rs).take j); rw [List.length_take] at h3; omega
    have HRA := Lib.hid hra
    have HH := Lib.hid hh
    have HB := Lib.hid hb
    have H0 := Lib.hid h0
    have H1 := Lib.hid h1
    by_cases hlt : j < rs.length
    · have hw0 := h0.lt
      have hw1 := h1.lt
      obtain ⟨b, o, rfl, hbl, hcell, hrow, hrl, hrn⟩ := grid_row HG.out hlt
      replace hcell := (hb.cell (p := ⟨b, o + j, none⟩) hbl).trans hcell
      have HAT := Lib.hid (rows_at rs hlt)
      have HJ : Hid (j < (rowNums rs).length) := by show _ < _; rw [HLS.out]; exact hlt
      have HDG : Hid (IsDg (q : Int) rs[j].xs) := HD.out _ (by rw [← HAT.out, List.getD_eq_getElem?_getD, List.getElem?_eq_getElem HJ.out]; exact List.getElem_mem _)
      obtain ⟨R, hR⟩ : ∃ R, R = rs[j] := ⟨_, rfl⟩
      rw [← hR] at hcell hrow hrl hrn HAT HDG
      obtain ⟨rA, rn, rc, rxs⟩ := R
      replace hcell : World.cell? wr ⟨b, o + j, none⟩ = some (.slice rA rn rc) := hcell
      obtain rfl : rn = 2 := by have h1 : rxs.length = rn := hrl; have h2 : rxs.length = 2 := HDG.out.1; omega
      have HRW : Hid (Holds wr rA (nums rxs)) := Holds.below (w := w) hrow hb
      have HRL : Hid (rxs.length = 2) := hrl
      have HAT2 : Hid ((rowNums rs).getD j [] = rxs) := HAT.out
      have HDG2 : Hid (IsDg (q : Int) rxs) := HDG.out
      obtain ⟨b2, o2, rfl, hbl2, a0, a1⟩ := two_at HRW.out HRL.out
      obtain ⟨f0, f1, f2⟩ := h0.cells3
      obtain ⟨g0, g1, -, -⟩ := h1.two
      have HYES := fun h => Lib.hid (now_yes (bs := bs) (t := t) HJ.out HAT2.out h)
      have HNO := fun h => Lib.hid (now_no (bs := bs) (t := t) HJ.out HAT2.out h)
      have HLB : Hid (leftBy bs t rxs = ((bs.getD (rxs.getD 0 0).toNat false != t) && (bs.getD (rxs.getD 1 0).toNat false != t))) := rfl
      obtain ⟨x0, hx0⟩ : ∃ x : Nat, rxs.getD 0 0 = x := ⟨(rxs.getD 0 0).toNat, by have := HDG2.out.2.1; omega⟩
      obtain ⟨x1, hx1⟩ : ∃ x : Nat, rxs.getD 1 0 = x := ⟨(rxs.getD 1 0).toNat, by have := HDG2.out.2.1; have := HDG2.out.2.2.1; omega⟩
      have hxq : x1 < q := by have := HDG2.out.2.2.2; omega
      have hxx : x0 < x1 := by have := HDG2.out.2.2.1; omega
      rw [hx0, hx1, Int.toNat_natCast, Int.toNat_natCast] at HLB
      rw [hx0] at a0
      rw [hx1] at a1
      have hx0q : (x0 : Int) < (q : Int) := by omega
      have hx1q : (x1 : Int) < (q : Int) := by omega
      obtain ⟨b3, o3, rfl, hbl3, c0⟩ := (HBT.out.below hb).look (k := x0) (by rw [bits_len, HY.out]; omega)
      obtain ⟨b4, o4, hB4, hbl4, c1⟩ := (HBT.out.below hb).look (k := x1) (by rw [bits_len, HY.out]; omega)
      simp only [Option.some.injEq, Addr.mk.injEq] at hB4
      obtain ⟨rfl, rfl, -⟩ := hB4
      have hu : bs[x0]? = some (bs.getD x0 false) := by rw [List.getD_eq_getElem?_getD, List.getElem?_eq_getElem (by have := HY.out; omega)]; rfl
      have hv : bs[x1]? = some (bs.getD x1 false) := by rw [List.getD_eq_getElem?_getD, List.getElem?_eq_getElem (by have := HY.out; omega)]; rfl
      have c0' : World.cell? wr ⟨b3, o3 + x0, none⟩ = some (.bool (bs.getD x0 false)) := by
        rw [c0]
        simp [bits, List.getD_eq_getElem?_getD, List.getElem?_eq_getElem (show x0 < bs.length by have := HY.out; omega)]
      have c1' : World.cell? wr ⟨b3, o3 + x1, none⟩ = some (.bool (bs.getD x1 false)) := by
        rw [c1]
        simp [bits, List.getD_eq_getElem?_getD, List.getElem?_eq_getElem (show x1 < bs.length by have := HY.out; omega)]
      clear c0 c1 hu hv hra hh hb h0 h1 hrow hrl hrn hR HAT hx0 hx1 HD HJ
      generalize bs.getD x0 false = u at *
      generalize bs.getD x1 false = v at *
      cases hl : leftBy bs t rxs
      · have HN := HNO hl
        rw [HLB.out] at hl
        clear HYES HNO HLB
        cases u <;> cases v <;> cases t
        all_goals first
          | (exfalso; revert hl; decide)
          | (clear hl
             go_wp2
             go_quiet (fail)
             go_wp2
             go_roundw
             case rel => exact ⟨j + 1, E, d, acc, by omega, by go_num, rfl, by rw [HN.out]; exact HRA.out, HH.out.below (below_draws (Below.refl _ _) _), H0.out.below (below_draws (Below.refl _ _) _), H1.out.below (below_draws (Below.refl _ _) _), below_draws HB.out _⟩
             case measure => simp [intOf]; omega)
      · have HN := HYES hl
        rw [HLB.out] at hl
        clear HYES HNO HLB
        have hbs : w.heap.size + 1 + 1 ≤ wr.heap.size := by omega
        cases u <;> cases v <;> cases t
        all_goals first
          | (exfalso; revert hl; decide)
          | (clear hl
             go_wp2
             go_quiet (fail)
             go_wp2_with fail
             refine (l1Own_any _ 2 rc rxs _ (by exact HRW.out.below (below_draws (Below.refl _ _) _)) HRL.out (by omega) (fun h => by cases h)).mono ?_
             rintro e w3 ⟨A2, q2, rfl, hown2, hb2⟩
             replace hb2 := below_undrewN hb2
             rw [HRL.out] at hown2 ⊢
             have hbs2 : wr.heap.size ≤ w3.heap.size := hb2.size
             have HOWN := Lib.hid ((HH.out.below hb2).alloc (.cells #[.slice A2 2 q2] 40)).1
             have HF := Lib.hid (Fresh.of_own (lo := wr.heap.size) hown2 (Nat.le_refl _))
             have HB2 := Lib.hid hb2
             have HMAX := Lib.hid (show acc.length + 1 ≤ maxLen by unfold maxLen; omega)
             have HBYT := Lib.hid (show (acc.length + 1) * 24 ≤ 140737488355328 by omega)
             have HBASE := Lib.hid (show w.heap.size + 1 + 1 ≤ (w3.alloc (.cells #[.slice A2 2 q2] 40)).heap.size by simp; omega)
             clear hown2 hb2 hcell a0 a1 f0 f1 f2 g0 g1 c0' c1'
             go_wp2_with (at_builtin; refine wpList_append_lies _ rfl (.tmp 37) (.tmp 40) 28 rfl (w.heap.size + 1 + 1) 40 i0 (.slice none 0 0) 1 24 Try.underlying28 HI.out HZ0.out HZ1.out HZ2.out rfl (by decide) (.slice E acc.length d) acc.length (rowVals acc) rfl HOWN.out ⟨w3.heap.size, 0, none⟩ 1 1 [.slice A2 2 q2] rfl rfl (cell_one_new _ _ _) (by simp [Value.oneCell']) (by decide) HMAX.out HBYT.out HBASE.out (w3.heap.size + 1) (by simp) ?_; intro g cap w4 hown4 hg4 hat hlt4)
             obtain ⟨A3, q3, hv3, hf3⟩ := HF.out
             simp only [Value.slice.injEq, true_and] at hv3
             obtain ⟨rfl, rfl⟩ := hv3
             have HP2 := Lib.hid (Heads.push (r := ⟨A2, 2, q2, rxs⟩) HH.out hbs HB2.out hf3 HRL.out (by show 2 ≤ _; omega) hown4 hg4 hat)
             have HBN := Lib.hid (((below_then HB.out HB2.out HB.out.size).alloc (by omega) (.cells #[.slice A2 2 q2] 40)).grown hg4 (by have := HBASE.out; omega) (fun kk hkk => by have := (HOWN.out.lt kk hkk).1; omega))
             have HH0 := Lib.hid (whole_grown ((H0.out.below HB2.out).alloc (.cells #[.slice A2 2 q2] 40)) hg4 (fun hkk => by have := (HOWN.out.lt _ hkk).1; omega))
             have HH1 := Lib.hid (whole_grown ((H1.out.below HB2.out).alloc (.cells #[.slice A2 2 q2] 40)) hg4 (fun hkk => by have := (HOWN.out.lt _ hkk).1; omega))
             clear hown4 hg4 hat hlt4 hf3
             go_roundw
             case rel => exact ⟨j + 1, some ⟨g, 0, none⟩, cap, acc ++ [⟨A2, 2, q2, rxs⟩], by omega, by go_num, by simp, by rw [HN.out, show rowNums (acc ++ [⟨A2, 2, q2, rxs⟩]) = rowNums acc ++ [rxs] by simp [rowNums], HRA.out], HP2.out, HH0.out, HH1.out, HBN.out⟩
             case measure => simp [intOf]; omega)
    · have hjn : j = rs.length := by omega
      have HR2 : Hid (rowNums acc = nowOf bs t (rowNums rs)) := by
        show _ = _
        rw [HRA.out, List.take_of_length_le (by rw [HLS.out]; omega)]
      clear hra hh h0 h1 HRA
      go_wp2
      go_ret
      exact ⟨E, d, acc, rfl, HR2.out, HH.out, HB.out⟩

end Go.Proofs.Ytkdjdnknhbmliaa
