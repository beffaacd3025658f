/-
  What is proved: the contract of the program's DangersNow. Conditions: the arguments are read as they lie.
-/
import Derived.Test.YtkdjdnknhbmliaaKDang
namespace Go.Proofs.Ytkdjdnknhbmliaa
open Go.RowKit

set_option maxHeartbeats 6400000 in
set_option maxRecDepth 100000 in
theorem implDangersNow_any (k s : Int) (A B : Option Addr) (m c q z : Nat) (rs : List RowV) (bs : List Bool) (t : Bool) (w : World) (hA : Grid w A rs) (hB : Holds w B (bits bs)) (hx : rs.length = m) (hm : m ≤ 1048576) (hy : bs.length = q) (hq : q ≤ 1048576) :
    Calls Try.prog 45 #[.agg #[.int .i64 k, .slice A m c, .int .i64 s], .agg #[.slice B q z, .bool t]] w (BackPost (dangersLs k s (rowNums rs) bs t) (asked k s (rowNums rs) bs) w) := by
  obtain ⟨i0, hi, hz0, hz1, hz2⟩ := info_parts info_row
  have HI := Lib.hid hi
  have HZ0 := Lib.hid hz0
  have HZ1 := Lib.hid hz1
  have HZ2 := Lib.hid hz2
  clear hi hz0 hz1 hz2
  subst hx
  have HY := Lib.hid hy
  have HLS := Lib.hid (rowNums_len rs)
  have h0 := (Whole.fresh w 54 #[.int .i64 k, .slice A rs.length c, .int .i64 s]).alloc (.cells #[.slice B q z, .bool t] 63)
  have h1 := Whole.fresh (w.alloc (.cells #[.int .i64 k, .slice A rs.length c, .int .i64 s] 54)) 63 #[.slice B q z, .bool t]
  rw [World.size_alloc] at h1
  have hbw := below2 w (.cells #[.int .i64 k, .slice A rs.length c, .int .i64 s] 54) (.cells #[.slice B q z, .bool t] 63)
  have hA2 := hA.below hbw
  have hB2 := hB.below hbw
  have HG := Lib.hid hA
  clear hy hA hB
  go_enter Try.func45, Try.ntmps45
  go_wp2_with fail
  refine (bankPlace_any k s A B rs.length c q z rs bs t _ hA2 hB2 rfl hm HY.out hq).mono ?_
  rintro e w1 ⟨⟨hk, rfl⟩ | ⟨hk, rfl⟩, hb⟩
  rotate_left
  · have HK := Lib.hid hk
    have HS : Hid (dangersLs k s (rowNums rs) bs t = []) := by show _ = _; rw [dangersLs, hk]; rfl
    have ht := below_then hbw hb (by simp; omega)
    have ht2 := ht.alloc ht.size (.cells (placeCells [] false) 90)
    clear hb hk h0 h1
    rw [show placeCells [] false = #[.bool false, .bool false, .bool false, .bool false, .bool false, .bool false, .bool false, .bool false, .bool false] from rfl] at ht2 ⊢
    go_wp2
    go_ret2
    rw [HS.out, HK.out]
    exact BackPost.no ht2
  · have HK := Lib.hid hk
    have HD : Hid (DgAll (rowNums rs)) := keep_all (asked_parts hk).1
    have HS : Hid (dangersLs k s (rowNums rs) bs t = nowOf bs t (rowNums rs)) := by show _ = _; rw [dangersLs, hk]; rfl
    have ht := below_then hbw hb (by simp; omega)
    obtain ⟨f, hf⟩ : ∃ f : Nat → Bool, f = fun i => bs.getD i false := ⟨_, rfl⟩
    have HPL : Hid (placeCells bs t = placeK f t) := by show _ = _; rw [place_K, hf]
    have hw1 : w.heap.size + 1 + 1 ≤ w1.heap.size := by have := hb.size; simpa using this
    have H0 := Lib.hid ((h0.below hb).alloc (.cells (placeK f t) 90))
    have HP := Lib.hid (Whole.fresh w1 90 (placeK f t))
    have HB0 := Lib.hid (ht.alloc ht.size (.cells (placeK f t) 90))
    obtain ⟨f0, f1, f2⟩ := H0.out.cells3
    have hcall := fun W rA rc rxs hH hD => leaves_any rA rc rxs bs t W hH hD
    rw [HPL.out] at hcall
    rw [HPL.out]
    have HC := Lib.hid hcall
    have HZP : Hid (placeK f t = #[.bool (f 0), .bool (f 1), .bool (f 2), .bool (f 3), .bool (f 4), .bool (f 5), .bool (f 6), .bool (f 7), .bool t]) := rfl
    clear hb hk hf h0 h1 hcall ht hA2 hB2
    rw [HZP.out] at f0 f1 f2 ⊢
    go_wp2
    clear f0 f1 f2
    rw [← HZP.out]
    go_loopw [8, 22] (fun v i wr => ∃ (j : Nat) (E : Option Addr) (d : Nat) (acc : List RowV), j ≤ rs.length ∧ i = .int .i64 j ∧ v = .slice E acc.length d ∧ rowNums acc = nowOf bs t ((rowNums rs).take j) ∧ Heads wr (w1.heap.size + 1) E d acc ∧ Whole wr w1.heap.size 90 (placeK f t) ∧ Below w.heap.size w wr) (fun _ i _ => rs.length - (intOf i).toNat)
    case atStart => exact ⟨0, none, 0, [], Nat.zero_le _, rfl, rfl, by simp [nowOf, rowNums], Heads.nil _ _, HP.out, HB0.out⟩
    case round =>
      clear H0 HP HB0
      obtain ⟨j, E, d, acc, hj, rfl, rfl, hra, hh, hp, hb⟩ := hrel
      have hacc : acc.length ≤ 1048576 := by have h2 := congrArg List.length hra; rw [rowNums_len] at h2; have h3 := nowOf_len bs t ((rowNums rs).take j); rw [List.length_take] at h3; omega
      have HRA := Lib.hid hra
      have HH := Lib.hid hh
      have HB := Lib.hid hb
      have HP := Lib.hid hp
      by_cases hlt : j < rs.length
      · have hwl := hp.lt
        obtain ⟨b, o, rfl, hbl, hcell, hrow, hrl, hrn⟩ := grid_row HG.out hlt
        replace hcell := (hb.cell (p := ⟨b, o + j, none⟩) hbl).trans hcell
        have HAT := Lib.hid (rows_at rs hlt)
        have HJ : Hid (j < (rowNums rs).length) := by show _ < _; rw [HLS.out]; exact hlt
        have HDG : Hid (IsDg 8 rs[j].xs) := HD.out _ (by rw [← HAT.out, List.getD_eq_getElem?_getD, List.getElem?_eq_getElem HJ.out]; exact List.getElem_mem _)
        obtain ⟨R, hR⟩ : ∃ R, R = rs[j] := ⟨_, rfl⟩
        rw [← hR] at hcell hrow hrl hrn HAT HDG
        obtain ⟨rA, rn, rc, rxs⟩ := R
        replace hcell : World.cell? wr ⟨b, o + j, none⟩ = some (.slice rA rn rc) := hcell
        obtain rfl : rn = 2 := by have h1 : rxs.length = rn := hrl; have h2 : rxs.length = 2 := HDG.out.1; omega
        have HRW : Hid (Holds wr rA (nums rxs)) := Holds.below (w := w) hrow hb
        have HRL : Hid (rxs.length = 2) := hrl
        have HAT2 : Hid ((rowNums rs).getD j [] = rxs) := HAT.out
        have HDG2 : Hid (IsDg 8 rxs) := HDG.out
        have HRN : Hid (rA = none → 2 = 0 ∧ rc = 0) := by
          intro hn
          obtain ⟨b2, o2, h3, -⟩ := two_at HRW.out HRL.out
          rw [hn] at h3
          cases h3
        have HYES := fun h => Lib.hid (now_yes (bs := bs) (t := t) HJ.out HAT2.out h)
        have HNO := fun h => Lib.hid (now_no (bs := bs) (t := t) HJ.out HAT2.out h)
        clear hra hh hb hp hrow hrl hrn hR HAT HDG HD HJ
        cases hl : leftBy bs t rxs
        · have HN := HNO hl
          have HL := Lib.hid hl
          clear hl HYES HNO
          go_wp2_with (refine wpList_load_row rfl 90 (.tmp 6) rfl w1.heap.size rfl 90 (placeK f t) (0, 0) _ HP.out Try.underlying90 rfl size_place ?_)
          refine (HC.out _ rA rc rxs HRW.out HDG2.out).mono ?_
          rintro e w2 ⟨rfl, hb2⟩
          rw [HL.out]
          have HB2 := Lib.hid hb2
          have HBN := Lib.hid (below_then HB.out hb2 HB.out.size)
          clear hb2
          go_wp2
          go_roundw
          case rel => exact ⟨j + 1, E, d, acc, by omega, by go_num, rfl, by rw [HN.out]; exact HRA.out, HH.out.below HB2.out, HP.out.below HB2.out, HBN.out⟩
          case measure => simp [intOf]; omega
        · have HN := HYES hl
          have HL := Lib.hid hl
          clear hl HYES HNO
          go_wp2_with (refine wpList_load_row rfl 90 (.tmp 6) rfl w1.heap.size rfl 90 (placeK f t) (0, 0) _ HP.out Try.underlying90 rfl size_place ?_)
          refine (HC.out _ rA rc rxs HRW.out HDG2.out).mono ?_
          rintro e w2 ⟨rfl, hb2⟩
          rw [HL.out]
          have HB2 := Lib.hid hb2
          have hs2 := hb2.size
          clear hb2
          go_wp2_with fail
          refine (cloneO_any rA 2 rc rxs _ (by exact HRW.out.below HB2.out) HRL.out (by omega) HRN.out).mono ?_
          rintro e w3 ⟨A2, q2, rfl, hown2, hb3⟩
          rw [HRL.out] at hown2 ⊢
          have hs3 : w2.heap.size ≤ w3.heap.size := hb3.size
          have HB3 := Lib.hid hb3
          have HOWN := Lib.hid (((HH.out.below HB2.out).below hb3).alloc (.cells #[.slice A2 2 q2] 40)).1
          have HF := Lib.hid (Fresh.of_own (lo := w2.heap.size) hown2 (Nat.le_refl _))
          have HMAX := Lib.hid (show acc.length + 1 ≤ maxLen by unfold maxLen; omega)
          have HBYT := Lib.hid (show (acc.length + 1) * 24 ≤ 140737488355328 by omega)
          have HBASE := Lib.hid (show w1.heap.size + 1 ≤ (w3.alloc (.cells #[.slice A2 2 q2] 40)).heap.size by simp; omega)
          clear hown2 hb3 hcell
          go_wp2_with (at_builtin; refine wpList_append_lies _ rfl (.tmp 29) (.tmp 32) 28 rfl (w1.heap.size + 1) 40 i0 (.slice none 0 0) 1 24 Try.underlying28 HI.out HZ0.out HZ1.out HZ2.out rfl (by decide) (.slice E acc.length d) acc.length (rowVals acc) rfl HOWN.out ⟨w3.heap.size, 0, none⟩ 1 1 [.slice A2 2 q2] rfl rfl (cell_one_new _ _ _) (by simp [Value.oneCell']) (by decide) HMAX.out HBYT.out HBASE.out (w3.heap.size + 1) (by simp) ?_; intro g cap w4 hown4 hg4 hat hlt4)
          obtain ⟨A3, q3, hv3, hf3⟩ := HF.out
          simp only [Value.slice.injEq, true_and] at hv3
          obtain ⟨rfl, rfl⟩ := hv3
          have HP2 := Lib.hid (Heads.push (r := ⟨A2, 2, q2, rxs⟩) (HH.out.below HB2.out) (by omega) HB3.out hf3 HRL.out (by show 2 ≤ _; omega) hown4 hg4 hat)
          have HBN := Lib.hid (((below_then (below_then HB.out HB2.out HB.out.size) HB3.out (Nat.le_trans HB.out.size hs2)).alloc (by have := HB.out.size; omega) (.cells #[.slice A2 2 q2] 40)).grown hg4 (by have := HBASE.out; omega) (fun kk hkk => by have := (HOWN.out.lt kk hkk).1; omega))
          have HPP := Lib.hid (whole_grown (((HP.out.below HB2.out).below HB3.out).alloc (.cells #[.slice A2 2 q2] 40)) hg4 (fun hkk => by have := (HOWN.out.lt _ hkk).1; omega))
          clear hown4 hg4 hat hlt4 hf3
          go_roundw
          case rel => exact ⟨j + 1, some ⟨g, 0, none⟩, cap, acc ++ [⟨A2, 2, q2, rxs⟩], by omega, by go_num, by simp, by rw [HN.out, show rowNums (acc ++ [⟨A2, 2, q2, rxs⟩]) = rowNums acc ++ [rxs] by simp [rowNums], HRA.out], HP2.out, HPP.out, HBN.out⟩
          case measure => simp [intOf]; omega
      · have hjn : j = rs.length := by omega
        have HR2 : Hid (rowNums acc = nowOf bs t (rowNums rs)) := by
          show _ = _
          rw [HRA.out, List.take_of_length_le (by rw [HLS.out]; omega)]
        have HFR := Lib.hid (hh.free.more (lo' := w.heap.size) (hi' := wr.heap.size) (by omega) (Nat.le_refl _))
        clear hra hh hp HRA
        go_wp2
        go_ret2
        rw [HS.out, HK.out]
        exact ⟨E, acc.length, d, acc, rfl, HR2.out, rfl, HFR.out, HB.out⟩

theorem specIsSafe_on (k s : Int) (A B : Option Addr) (m c q z : Nat) (rs : List RowV) (bs : List Bool) (t : Bool) (ls : List (List Int)) (w : World) (hA : Grid w A rs) (hB : Holds w B (bits bs)) (he : rowNums rs = ls) (hx : rs.length = m) (hm : m ≤ 1048576) (hy : bs.length = q) (hq : q ≤ 1048576) :
    Calls Try.prog 40 #[.agg #[.int .i64 k, .slice A m c, .int .i64 s], .agg #[.slice B q z, .bool t]] w fun e w' => e = .returned (.tuple #[.bool (safeB k s ls bs t), .bool (asked k s ls bs)]) ∧ Below w.heap.size w w' :=
  he ▸ specIsSafe_any k s A B m c q z rs bs t w hA hB hx hm hy hq
theorem specDangersNow_on (k s : Int) (A B : Option Addr) (m c q z : Nat) (rs : List RowV) (bs : List Bool) (t : Bool) (ls : List (List Int)) (w : World) (hA : Grid w A rs) (hB : Holds w B (bits bs)) (he : rowNums rs = ls) (hx : rs.length = m) (hm : m ≤ 1048576) (hy : bs.length = q) (hq : q ≤ 1048576) :
    Calls Try.prog 44 #[.agg #[.int .i64 k, .slice A m c, .int .i64 s], .agg #[.slice B q z, .bool t]] w (BackPost (dangersLs k s ls bs t) (asked k s ls bs) w) :=
  he ▸ specDangersNow_any k s A B m c q z rs bs t w hA hB hx hm hy hq
theorem implIsSafe_on (k s : Int) (A B : Option Addr) (m c q z : Nat) (rs : List RowV) (bs : List Bool) (t : Bool) (ls : List (List Int)) (w : World) (hA : Grid w A rs) (hB : Holds w B (bits bs)) (he : rowNums rs = ls) (hx : rs.length = m) (hm : m ≤ 1048576) (hy : bs.length = q) (hq : q ≤ 1048576) :
    Calls Try.prog 42 #[.agg #[.int .i64 k, .slice A m c, .int .i64 s], .agg #[.slice B q z, .bool t]] w fun e w' => e = .returned (.tuple #[.bool (safeB k s ls bs t), .bool (asked k s ls bs)]) ∧ Below w.heap.size w w' :=
  he ▸ implIsSafe_any k s A B m c q z rs bs t w hA hB hx hm hy hq
theorem implDangersNow_on (k s : Int) (A B : Option Addr) (m c q z : Nat) (rs : List RowV) (bs : List Bool) (t : Bool) (ls : List (List Int)) (w : World) (hA : Grid w A rs) (hB : Holds w B (bits bs)) (he : rowNums rs = ls) (hx : rs.length = m) (hm : m ≤ 1048576) (hy : bs.length = q) (hq : q ≤ 1048576) :
    Calls Try.prog 45 #[.agg #[.int .i64 k, .slice A m c, .int .i64 s], .agg #[.slice B q z, .bool t]] w (BackPost (dangersLs k s ls bs t) (asked k s ls bs) w) :=
  he ▸ implDangersNow_any k s A B m c q z rs bs t w hA hB hx hm hy hq
/-- The place of a danger among all pairs. -/
theorem dg_rank {k : Int} {ds : List (List Int)} (hk : k ≤ 8) : ∀ j, j < ds.length → DgTo k ds (j + 1) → (j : Int) ≤ 8 * (ds.getD j []).getD 0 0 + (ds.getD j []).getD 1 0 := by
  intro j
  induction j with
  | zero =>
    intro hj h
    have h0 := (h 0 (by omega)).1
    have := h0.2.1
    have := h0.2.2.1
    omega
  | succ j ih =>
    intro hj h
    have h0 := ih (by omega) (fun i hi => h i (by omega))
    have h1 := h (j + 1) (by omega)
    have h2 := (h j (by omega)).1
    obtain ⟨h3, h4⟩ := h1
    rw [show j + 1 - 1 = j by omega] at h4
    have a1 := h2.2.2.2
    have b0 := h3.2.1
    have b1 := h3.2.2.1
    have c1 := h2.2.1
    have c2 := h2.2.2.1
    rcases h4 with h4 | h4
    · omega
    · unfold BefD at h4
      push_cast
      omega
/-- There are few dangers. -/
theorem keep_few {k : Int} {ds : List (List Int)} (h : DgTo k ds ds.length) (hk : k ≤ 8) : ds.length ≤ 64 := by
  rcases Nat.eq_zero_or_pos ds.length with h0 | h0
  · omega
  · have h1 := dg_rank (ds := ds) hk (ds.length - 1) (by omega) (by rw [show ds.length - 1 + 1 = ds.length by omega]; exact h)
    have h2 := (h (ds.length - 1) (by omega)).1
    have a1 := h2.2.2.2
    have a2 := h2.2.2.1
    omega
theorem dangersLs_le {k s : Int} {ls : List (List Int)} {bs : List Bool} {t : Bool} (h : ls.length ≤ 1048576) : (dangersLs k s ls bs t).length ≤ 1048576 ∧ ((dangersLs k s ls bs t).map List.length).sum ≤ 1048576 := by
  unfold dangersLs
  split
  · rename_i hk
    have hd := asked_dg hk
    have hkk := (asked_parts hk)
    have hb8 : bs.length ≤ 8 := by have := (keepOk_iff.1 hkk.1).1; have := hkk.2; omega
    have h1 := nowOf_len bs t ls
    have hst := (keepOk_iff.1 hkk.1).2
    have hlen : ls.length ≤ 64 := keep_few hst (by have := (keepOk_iff.1 hkk.1).1; omega)
    have hs : ∀ l : List (List Int), (∀ d ∈ l, d.length = 2) → (l.map List.length).sum = 2 * l.length := by
      intro l
      induction l with
      | nil => intro _; rfl
      | cons d l ih => intro h; rw [List.map_cons, List.sum_cons, ih (fun x hx => h x (List.mem_cons_of_mem _ hx)), h d (List.mem_cons_self ..), List.length_cons]; omega
    refine ⟨by omega, ?_⟩
    rw [hs (nowOf bs t ls) (fun d hd' => (hd d (List.mem_filter.1 hd').1).1)]
    show 2 * (nowOf bs t ls).length ≤ _
    omega
  · simp

end Go.Proofs.Ytkdjdnknhbmliaa
