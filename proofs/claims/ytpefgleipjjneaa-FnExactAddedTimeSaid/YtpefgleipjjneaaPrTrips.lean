/-
  What is proved: the contract of the model's prTrips: the trips of two at once, the signs of their rounds, and whether one was even. Conditions: one to twelve times, each from 1 to 1000, read as they lie.
-/
import Derived.Test.YtpefgleipjjneaaPrM
import Derived.Test.YtpefgleipjjneaaRank
import Derived.Deep.DeepCutAuto
namespace Go.Proofs.Ytpefgleipjjneaa
open Go.RowKit

/-- What prTrips hands back. -/
def PrPost (ls : List (List Int)) (sg : List UInt8) (ev : Bool) (w : World) (e : Ending) (w' : World) : Prop :=
  ∃ (E : Option Addr) (d : Nat) (rs : List RowV), e = .returned (.tuple #[.slice E rs.length d, .string ⟨sg.toArray⟩, .bool ev]) ∧ rowNums rs = ls ∧ Heads w' w.heap.size E d rs ∧ Below w.heap.size w w'
/-- The list of trips, under way. -/
def PrTo (T : List (List Int)) (SG : List UInt8) (EV : Bool) (f : Bool) (W : List Wk) (k lo : Nat) (w1 wr : World) (v12 v13 : Value) (E : Option Addr) (d : Nat) (acc : List RowV) : Prop :=
  rowNums acc ++ (tripsT f W k).map listT = T ∧ Heads wr lo E d acc ∧ (∃ l : List UInt8, v12 = .string ⟨l.toArray⟩ ∧ l ++ signsT f W k = SG) ∧ (∃ ev : Bool, v13 = .bool ev ∧ (ev || evenT W k) = EV) ∧ Below lo w1 wr

set_option maxHeartbeats 12800000 in
set_option maxRecDepth 100000 in
theorem prTrips_any (A : Option Addr) (n c : Nat) (xs : List Int) (e : Bool) (w : World) (hA : Holds w A (nums xs)) (hx : xs.length = n) (hp : prOk xs = true) :
    Calls Try.prog 21 #[.slice A n c, .bool e] w (PrPost ((tripsT (!e) (mk xs (ord xs)) n).map listT) (signsT (!e) (mk xs (ord xs)) n) (evenT (mk xs (ord xs)) n) w) := by
  obtain ⟨i1, ri, rz0, rz1, rz2⟩ := info_parts info_row
  have RI := Lib.hid ri
  have RZ0 := Lib.hid rz0
  have RZ1 := Lib.hid rz1
  have RZ2 := Lib.hid rz2
  have HX := Lib.hid hx
  obtain ⟨h1, h12, hmild⟩ := prOk_parts hp
  rw [hx] at h1 h12
  have HGW := Lib.hid (good_ord xs)
  have HWL : Hid ((mk xs (ord xs)).length = n) := by show _ = _; rw [mk_len, ord_len, hx]
  have HM := Lib.hid hmild
  have HORD : Hid (ordTo xs n = ord xs) := by show _ = _; rw [ord, hx]
  have HWI := Lib.hid (fun (k : Nat) (hk : k < (ord xs).length) => wk_mk (xs := xs) hk)
  have HOL : Hid ((ord xs).length = n) := by show _ = _; rw [ord_len, hx]
  generalize hW : mk xs (ord xs) = W at HGW HWL HWI ⊢
  generalize hT : (tripsT (!e) W n).map listT = T
  generalize hSG : signsT (!e) W n = SG
  generalize hEV : evenT W n = EV
  have HT := Lib.hid hT
  have HSG := Lib.hid hSG
  have HEV := Lib.hid hEV
  have htl : T.length ≤ 24 := by
    have := trips_len (!e) W n
    rw [← hT, List.length_map]
    omega
  have hsl : SG.length ≤ 12 := by
    have := signsT_len (!e) W n
    rw [← hSG]
    omega
  clear hx hp hmild hW hT hSG hEV ri rz0 rz1 rz2
  go_enter Try.func21, Try.ntmps21
  go_wp2_with fail
  refine (prOrder_any A n c xs _ hA HX.out (by omega)).mono ?_
  rintro e' w1 ⟨A1, c1, rfl, hown, hb⟩
  rw [ordTo_len] at hown ⊢
  have hbs : w.heap.size ≤ w1.heap.size := hb.size
  have HB1 := Lib.hid hb
  rcases own_some hown with ⟨-, h0, -⟩ | ⟨g, rfl, hnc⟩
  · omega
  obtain ⟨hgl, -, hcells⟩ := own_cells hown
  rw [HORD.out] at hcells
  have HOC := Lib.hid hcells
  clear hown hb hcells
  by_cases hn1 : n = 1
  · subst hn1
    have HL1 := Lib.hid (lay_heads' [[0]] w1 (by simp) (by decide))
    have HB2 := Lib.hid (below_then HB1.out (lay_all [[0]] w1 (.cells (rowVals (rowsAt w1.heap.size [[0]])).toArray 22)) hbs)
    have hT1 : T = [[0]] := by
      rw [← HT.out]
      have h := HWI.out 0 (by rw [HOL.out]; exact Nat.one_pos)
      have hm := ord_mem (List.getElem_mem (by rw [HOL.out]; exact Nat.one_pos : 0 < (ord xs).length))
      rw [HX.out] at hm
      have hz : (wk W 0).1 = 0 := by rw [h]; omega
      show [listT (wk W 0, wk W 0)] = _
      rw [list_alone, hz]
    have HT1 := Lib.hid hT1
    have HS1 : Hid (SG = []) := by show _ = _; rw [← HSG.out]; rfl
    have HE1 : Hid (EV = false) := by show _ = _; rw [← HEV.out]; rfl
    clear hT1 HT HSG HEV
    go_wp2
    refine bodyPost_ret (v := .tuple #[.slice (some ⟨w1.heap.size + 1, 0, none⟩) 1 1, .string ⟨#[]⟩, .bool false]) (by simp [results, Try.results21, go_sem]) rfl ?_
    rw [HT1.out, HS1.out, HE1.out]
    exact ⟨_, _, rowsAt w1.heap.size [[0]], rfl, rowsAt_nums _ _, HL1.out.raise hbs, HB2.out⟩
  · have hne1 : ((n : Int) == 1) = false := by simp; omega
    have hn2 : 2 ≤ n := by omega
    obtain ⟨bA, oA, rfl, hblA, -⟩ := hA.look (k := 0) (by rw [nums_len, HX.out]; omega)
    have hid : ∀ k, k < n → ∃ i : Nat, (wk W k).1 = (i : Int) ∧ i < n ∧ (wk W k).2 = tm xs i ∧ 1 ≤ tm xs i ∧ tm xs i ≤ 1000 ∧ w1.cell? ⟨g, k, none⟩ = some (.int .i64 i) ∧ w1.cell? ⟨bA, oA + i, none⟩ = some (.int .i64 (tm xs i)) := by
      intro k hk
      have hko : k < (ord xs).length := by rw [HOL.out]; exact hk
      have hwk := HWI.out k hko
      have hm := ord_mem (List.getElem_mem hko)
      obtain ⟨i, hi⟩ := Int.eq_ofNat_of_zero_le hm.1
      have hix : i < xs.length := by omega
      obtain ⟨b2, o2, hab, -, hc2⟩ := hA.look (k := i) (by rw [nums_len]; exact hix)
      obtain ⟨rfl, rfl⟩ : bA = b2 ∧ oA = o2 := by simpa using hab
      have hxi := HM.out _ (List.getElem_mem hix)
      have htm := tm_at hix
      refine ⟨i, by rw [hwk]; exact hi, by have := HX.out; omega, by rw [hwk, hi], by rw [htm]; exact hxi.1, by rw [htm]; exact hxi.2, HOC.out k _ (by simp [nums, hko, hi]), ?_⟩
      rw [HB1.out.cell (p := ⟨bA, oA + i, none⟩) hblA, hc2]
      simp [nums, htm]
    have HID := Lib.hid hid
    obtain ⟨ia, ha1, ha2, ha3, ha4, ha5, ha6, ha7⟩ := hid 0 (by omega)
    obtain ⟨ib, hb1, hb2, hb3, hb4, hb5, hb6, hb7⟩ := hid 1 (by omega)
    have HA1 := Lib.hid ha1
    have HA3 := Lib.hid ha3
    have HB1' := Lib.hid hb1
    have HB3 := Lib.hid hb3
    have h0n : (0 : Int) < (n : Int) := by omega
    have h1n : (1 : Int) < (n : Int) := by omega
    have hbA1 : bA < w1.heap.size := Nat.lt_of_lt_of_le hblA hbs
    clear hid ha1 ha3 hb1 hb3 hn1
    go_wp2_with fail
    go_quiet (fail)
    rename_i nq
    clear ha6 hb6
    go_wp2_with fail
    go_loopw [8, 11, 12, 13] (fun v8 v11 v12 v13 wr => ∃ (k : Nat) (E : Option Addr) (d : Nat) (acc : List RowV), 2 ≤ k ∧ k ≤ n ∧ v8 = .int .i64 k ∧ v11 = .slice E acc.length d ∧ PrTo T SG EV (!e) W k w1.heap.size w1 wr v12 v13 E d acc) (fun v8 _ _ _ _ => (intOf v8).toNat)
    case atStart => exact ⟨n, none, 0, [], hn2, Nat.le_refl _, rfl, rfl, HT.out, Heads.nil _ _, ⟨[], rfl, HSG.out⟩, ⟨false, rfl, HEV.out⟩, below_draws (Below.refl _ _) _⟩
    case round =>
      obtain ⟨k, E, d, acc, hk2, hkn, rfl, rfl, hT, hh, ⟨l, rfl, hSG⟩, ⟨ev, rfl, hEV⟩, hb⟩ := hrel
      have hwz : w1.heap.size ≤ wr.heap.size := hb.size
      have hal : acc.length ≤ 24 := by
        have h := congrArg List.length hT
        rw [List.length_append, rowNums_len] at h
        omega
      have hll : l.length ≤ 12 := by
        have h := congrArg List.length hSG
        rw [List.length_append] at h
        omega
      have HH := Lib.hid hh
      have HB := Lib.hid hb
      by_cases hk4 : 4 ≤ k
      · obtain ⟨y, hky⟩ : ∃ y, y + 2 = k := ⟨k - 2, by omega⟩
        obtain ⟨z, hkz⟩ : ∃ z, z + 1 = k := ⟨k - 1, by omega⟩
        obtain ⟨iy, hy1, hy2, hy3, hy4, hy5, hy6, hy7⟩ := HID.out y (by omega)
        obtain ⟨iz, hz1, hz2, hz3, hz4, hz5, hz6, hz7⟩ := HID.out z (by omega)
        have hT2 : rowNums acc ++ ((round (!e) W y).map listT ++ (tripsT (!e) W y).map listT) = T := by rw [← tripsM_step (!e) W hk4 hky]; exact hT
        have hSG2 : l ++ (signR (!e) W y :: signsT (!e) W y) = SG := by rw [← signsT_step (!e) W hk4 hky]; exact hSG
        have hEV2 : (ev || (decide (gainOf W y = 0) || evenT W y)) = EV := by rw [← evenT_step W hk4 hky]; exact hEV
        have hgain : gainOf W y = tm xs ia + tm xs iy - 2 * tm xs ib := by
          show (wk W 0).2 + (wk W y).2 - 2 * (wk W 1).2 = _
          rw [HA3.out, HB3.out, hy3]
        have hs2 : (k : Int) - 2 = (y : Int) := by omega
        have hs1 : (k : Int) - 1 = (z : Int) := by omega
        have hw2 : IntKind.i64.wrap ((k : Int) - 2) = (y : Int) := by rw [hs2]; exact IntWalk.i64_in _ (by omega)
        have hw1 : IntKind.i64.wrap ((k : Int) - 1) = (z : Int) := by rw [hs1]; exact IntWalk.i64_in _ (by omega)
        have hwy : IntKind.i64.wrap (y : Int) = (y : Int) := IntWalk.i64_in _ (by omega)
        have hwz' : IntKind.i64.wrap (z : Int) = (z : Int) := IntWalk.i64_in _ (by omega)
        have hk3 : (3 : Int) < (k : Int) := by omega
        have hyn : (y : Int) < (n : Int) := by omega
        have hzn : (z : Int) < (n : Int) := by omega
        have hiy : (iy : Int) < (n : Int) := by omega
        have hia : (ia : Int) < (n : Int) := by omega
        have hib : (ib : Int) < (n : Int) := by omega
        have cy := (hb.cell (p := ⟨g, y, none⟩) hgl).trans hy6
        have cz := (hb.cell (p := ⟨g, z, none⟩) hgl).trans hz6
        have ty := (hb.cell (p := ⟨bA, oA + iy, none⟩) hbA1).trans hy7
        have ta := (hb.cell (p := ⟨bA, oA + ia, none⟩) hbA1).trans ha7
        have tb := (hb.cell (p := ⟨bA, oA + ib, none⟩) hbA1).trans hb7
        generalize tm xs ia = xa at *
        generalize tm xs ib = xb at *
        generalize tm xs iy = xy at *
        have hm1 : IntKind.i64.wrap (2 * xb) = 2 * xb := IntWalk.i64_in _ (by omega)
        have hm2 : IntKind.i64.wrap (xa + xy) = xa + xy := IntWalk.i64_in _ (by omega)
        have HT2 := Lib.hid hT2
        have HSG2 := Lib.hid hSG2
        have HEV2 := Lib.hid hEV2
        have HGN := Lib.hid hgain
        have HY1 := Lib.hid hy1
        have HZ1 := Lib.hid hz1
        have HKY := Lib.hid hky
        have HKZ := Lib.hid hkz
        clear hT hSG hEV hT2 hSG2 hEV2 hgain hy1 hz1 hy3 hz3 hky hkz hh hb hy6 hz6 hy7 hz7
        go_wp2_with fail
        go_quiet (fail)
        rename_i nq1
        go_wp2_with fail
        go_quiet (fail)
        rename_i nq2
        clear cy cz ty ta tb
        refine (?_ : ∀ W0 : World, Below wr.heap.size wr W0 → Exit.then _ _ _ _ W0) _ (below_draws (below_draws (Below.refl _ _) _) _)
        intro w5 hb5
        have hz5 : w1.heap.size ≤ w5.heap.size := Nat.le_trans hwz hb5.size
        have HH5 := Lib.hid (HH.out.below hb5)
        have HB5 := Lib.hid (below_then HB.out hb5 hwz)
        clear hb5
        have hcat := fun (ch : UInt8) (W : World) => cat_sign l ch (by omega) W
        have hgn := HGN.out
        by_cases hg : 0 < gainOf W y
        · have hl1 : 2 * xb < xa + xy := by omega
          have HEV3 : Hid ((ev || evenT W y) = EV) := by show _ = _; rw [← HEV2.out]; congr 1; rw [show decide (gainOf W y = 0) = false by simp; omega, Bool.false_or]
          have he1 : ((2 * xb : Int) == xa + xy) = false := by simp; omega
          have HG := Lib.hid hg
          clear hgn hg
          cases e
          · have HL : Hid ((round (!false) W y).map listT = [[min (ia : Int) (ib : Int), max (ia : Int) (ib : Int)], [(ia : Int)], [min (iy : Int) (iz : Int), max (iy : Int) (iz : Int)], [(ib : Int)]]) := by
              show _ = _
              have h := fetch_lists HGW.out (by omega) (by rw [HWL.out]; have := HKZ.out; have := HKY.out; omega) HG.out
              rw [HA1.out, HB1'.out, HY1.out, show (wk W (y + 1)).1 = (iz : Int) by rw [show y + 1 = z by have := HKY.out; have := HKZ.out; omega]; exact HZ1.out] at h
              exact h
            have HAC : Hid (rowNums acc ++ ([[min (ia : Int) (ib : Int), max (ia : Int) (ib : Int)], [(ia : Int)], [min (iy : Int) (iz : Int), max (iy : Int) (iz : Int)], [(ib : Int)]] ++ (tripsT (!false) W y).map listT) = T) := by show _ = _; rw [← HL.out]; exact HT2.out
            have HSN : Hid (l ++ [102] ++ signsT (!false) W y = SG) := by show _ = _; rw [← HSG2.out, List.append_assoc, show signR (!false) W y = 102 from if_pos (by simp [HG.out])]; rfl
            have HMX := Lib.hid (show acc.length + 4 ≤ maxLen by unfold maxLen; omega)
            have HBY := Lib.hid (show (acc.length + 4) * 24 ≤ 140737488355328 by omega)
            have HBS := Lib.hid (show w1.heap.size ≤ ((lay w5 [[min (ia : Int) (ib : Int), max (ia : Int) (ib : Int)], [(ia : Int)], [min (iy : Int) (iz : Int), max (iy : Int) (iz : Int)], [(ib : Int)]]).alloc (.cells (rowVals (rowsAt w5.heap.size [[min (ia : Int) (ib : Int), max (ia : Int) (ib : Int)], [(ia : Int)], [min (iy : Int) (iz : Int), max (iy : Int) (iz : Int)], [(ib : Int)]])).toArray 22)).heap.size by rw [laid_size]; omega)
            have HLB := Lib.hid (lay_all [[min (ia : Int) (ib : Int), max (ia : Int) (ib : Int)], [(ia : Int)], [min (iy : Int) (iz : Int), max (iy : Int) (iz : Int)], [(ib : Int)]] w5 (.cells (rowVals (rowsAt w5.heap.size [[min (ia : Int) (ib : Int), max (ia : Int) (ib : Int)], [(ia : Int)], [min (iy : Int) (iz : Int), max (iy : Int) (iz : Int)], [(ib : Int)]])).toArray 22))
            have HHA := Lib.hid ((HH5.out.below (lay_all [[min (ia : Int) (ib : Int), max (ia : Int) (ib : Int)], [(ia : Int)], [min (iy : Int) (iz : Int), max (iy : Int) (iz : Int)], [(ib : Int)]] w5 (.cells (rowVals (rowsAt w5.heap.size [[min (ia : Int) (ib : Int), max (ia : Int) (ib : Int)], [(ia : Int)], [min (iy : Int) (iz : Int), max (iy : Int) (iz : Int)], [(ib : Int)]])).toArray 22))).1)
            have HLH := Lib.hid (lay_heads' [[min (ia : Int) (ib : Int), max (ia : Int) (ib : Int)], [(ia : Int)], [min (iy : Int) (iz : Int), max (iy : Int) (iz : Int)], [(ib : Int)]] w5 (by simp) (by show 4 ≤ maxLen; decide))
            cases ev
            all_goals
              go_wp2_with (first | (go_at_call 28; refine (prPair_any _ _ _).mono ?_; rintro e' w' ⟨rfl, rfl⟩) | (at_builtin; refine wpList_append_lies _ rfl (.tmp 71) (.tmp 82) 38 rfl w1.heap.size 22 i1 (.slice none 0 0) 1 24 Try.underlying38 RI.out RZ0.out RZ1.out RZ2.out rfl (by decide) (.slice E acc.length d) acc.length (rowVals acc) rfl HHA.out ⟨w5.heap.size + 4, 0, none⟩ 4 4 (rowVals (rowsAt w5.heap.size [[min (ia : Int) (ib : Int), max (ia : Int) (ib : Int)], [(ia : Int)], [min (iy : Int) (iz : Int), max (iy : Int) (iz : Int)], [(ib : Int)]])) rfl (rowsAt_vals _ _) (lay_news' [[min (ia : Int) (ib : Int), max (ia : Int) (ib : Int)], [(ia : Int)], [min (iy : Int) (iz : Int), max (iy : Int) (iz : Int)], [(ib : Int)]] w5) (rowVals_one' _) (by decide) HMX.out HBY.out HBS.out (w5.heap.size + 4 + 1) (laid_size [[min (ia : Int) (ib : Int), max (ia : Int) (ib : Int)], [(ia : Int)], [min (iy : Int) (iz : Int), max (iy : Int) (iz : Int)], [(ib : Int)]] _ _) ?_; intro g3 c3 w3 hown3 hg3 hat3 hlt3))
              have hat3' : (Value.slice E acc.length d).ownBlock = some g3 ∨ g3 = ((lay w5 [[min (ia : Int) (ib : Int), max (ia : Int) (ib : Int)], [(ia : Int)], [min (iy : Int) (iz : Int), max (iy : Int) (iz : Int)], [(ib : Int)]]).alloc (.cells (rowVals (rowsAt w5.heap.size [[min (ia : Int) (ib : Int), max (ia : Int) (ib : Int)], [(ia : Int)], [min (iy : Int) (iz : Int), max (iy : Int) (iz : Int)], [(ib : Int)]])).toArray 22)).heap.size := by rw [laid_size]; exact hat3
              have HJ := Lib.hid (Heads.join HH5.out hz5 HLB.out HLH.out (by rw [rowsAt_len]; exact hown3) hg3 hat3')
              have HBJ := Lib.hid ((below_then HB5.out HLB.out hz5).grown hg3 HBS.out (fun kk e => (HHA.out.lt kk e).1))
              clear hown3 hg3 hat3 hat3' hlt3
              have HLR : Hid ((acc ++ rowsAt w5.heap.size [[min (ia : Int) (ib : Int), max (ia : Int) (ib : Int)], [(ia : Int)], [min (iy : Int) (iz : Int), max (iy : Int) (iz : Int)], [(ib : Int)]]).length = acc.length + 4) := by show _ = _; rw [List.length_append, rowsAt_len]; rfl
              go_wp2
              go_roundw
              case rel => exact ⟨y, some ⟨g3, 0, none⟩, c3, acc ++ rowsAt w5.heap.size [[min (ia : Int) (ib : Int), max (ia : Int) (ib : Int)], [(ia : Int)], [min (iy : Int) (iz : Int), max (iy : Int) (iz : Int)], [(ib : Int)]], by omega, by omega, by go_num, by rw [HLR.out], by rw [show rowNums (acc ++ rowsAt w5.heap.size [[min (ia : Int) (ib : Int), max (ia : Int) (ib : Int)], [(ia : Int)], [min (iy : Int) (iz : Int), max (iy : Int) (iz : Int)], [(ib : Int)]]) = rowNums acc ++ rowNums (rowsAt w5.heap.size [[min (ia : Int) (ib : Int), max (ia : Int) (ib : Int)], [(ia : Int)], [min (iy : Int) (iz : Int), max (iy : Int) (iz : Int)], [(ib : Int)]]) by simp [rowNums], rowsAt_nums, List.append_assoc]; exact HAC.out, HJ.out, ⟨l ++ [102], rfl, HSN.out⟩, ⟨_, rfl, HEV3.out⟩, HBJ.out⟩
              case measure => simp [intOf]; omega
          · have HL : Hid ((round (!true) W y).map listT = [[min (ia : Int) (iz : Int), max (ia : Int) (iz : Int)], [(ia : Int)], [min (ia : Int) (iy : Int), max (ia : Int) (iy : Int)], [(ia : Int)]]) := by
              show _ = _
              have h := escort_lists (f := !true) (y := y) HGW.out (by omega) (by rw [HWL.out]; have := HKZ.out; have := HKY.out; omega) (by simp)
              rw [HA1.out, HY1.out, show (wk W (y + 1)).1 = (iz : Int) by rw [show y + 1 = z by have := HKY.out; have := HKZ.out; omega]; exact HZ1.out] at h
              exact h
            have HAC : Hid (rowNums acc ++ ([[min (ia : Int) (iz : Int), max (ia : Int) (iz : Int)], [(ia : Int)], [min (ia : Int) (iy : Int), max (ia : Int) (iy : Int)], [(ia : Int)]] ++ (tripsT (!true) W y).map listT) = T) := by show _ = _; rw [← HL.out]; exact HT2.out
            have HSN : Hid (l ++ [101] ++ signsT (!true) W y = SG) := by show _ = _; rw [← HSG2.out, List.append_assoc, show signR (!true) W y = 101 from if_neg (by simp)]; rfl
            have HMX := Lib.hid (show acc.length + 4 ≤ maxLen by unfold maxLen; omega)
            have HBY := Lib.hid (show (acc.length + 4) * 24 ≤ 140737488355328 by omega)
            have HBS := Lib.hid (show w1.heap.size ≤ ((lay w5 [[min (ia : Int) (iz : Int), max (ia : Int) (iz : Int)], [(ia : Int)], [min (ia : Int) (iy : Int), max (ia : Int) (iy : Int)], [(ia : Int)]]).alloc (.cells (rowVals (rowsAt w5.heap.size [[min (ia : Int) (iz : Int), max (ia : Int) (iz : Int)], [(ia : Int)], [min (ia : Int) (iy : Int), max (ia : Int) (iy : Int)], [(ia : Int)]])).toArray 22)).heap.size by rw [laid_size]; omega)
            have HLB := Lib.hid (lay_all [[min (ia : Int) (iz : Int), max (ia : Int) (iz : Int)], [(ia : Int)], [min (ia : Int) (iy : Int), max (ia : Int) (iy : Int)], [(ia : Int)]] w5 (.cells (rowVals (rowsAt w5.heap.size [[min (ia : Int) (iz : Int), max (ia : Int) (iz : Int)], [(ia : Int)], [min (ia : Int) (iy : Int), max (ia : Int) (iy : Int)], [(ia : Int)]])).toArray 22))
            have HHA := Lib.hid ((HH5.out.below (lay_all [[min (ia : Int) (iz : Int), max (ia : Int) (iz : Int)], [(ia : Int)], [min (ia : Int) (iy : Int), max (ia : Int) (iy : Int)], [(ia : Int)]] w5 (.cells (rowVals (rowsAt w5.heap.size [[min (ia : Int) (iz : Int), max (ia : Int) (iz : Int)], [(ia : Int)], [min (ia : Int) (iy : Int), max (ia : Int) (iy : Int)], [(ia : Int)]])).toArray 22))).1)
            have HLH := Lib.hid (lay_heads' [[min (ia : Int) (iz : Int), max (ia : Int) (iz : Int)], [(ia : Int)], [min (ia : Int) (iy : Int), max (ia : Int) (iy : Int)], [(ia : Int)]] w5 (by simp) (by show 4 ≤ maxLen; decide))
            cases ev
            all_goals
              go_wp2_with (first | (go_at_call 28; refine (prPair_any _ _ _).mono ?_; rintro e' w' ⟨rfl, rfl⟩) | (at_builtin; refine wpList_append_lies _ rfl (.tmp 86) (.tmp 97) 38 rfl w1.heap.size 22 i1 (.slice none 0 0) 1 24 Try.underlying38 RI.out RZ0.out RZ1.out RZ2.out rfl (by decide) (.slice E acc.length d) acc.length (rowVals acc) rfl HHA.out ⟨w5.heap.size + 4, 0, none⟩ 4 4 (rowVals (rowsAt w5.heap.size [[min (ia : Int) (iz : Int), max (ia : Int) (iz : Int)], [(ia : Int)], [min (ia : Int) (iy : Int), max (ia : Int) (iy : Int)], [(ia : Int)]])) rfl (rowsAt_vals _ _) (lay_news' [[min (ia : Int) (iz : Int), max (ia : Int) (iz : Int)], [(ia : Int)], [min (ia : Int) (iy : Int), max (ia : Int) (iy : Int)], [(ia : Int)]] w5) (rowVals_one' _) (by decide) HMX.out HBY.out HBS.out (w5.heap.size + 4 + 1) (laid_size [[min (ia : Int) (iz : Int), max (ia : Int) (iz : Int)], [(ia : Int)], [min (ia : Int) (iy : Int), max (ia : Int) (iy : Int)], [(ia : Int)]] _ _) ?_; intro g3 c3 w3 hown3 hg3 hat3 hlt3))
              have hat3' : (Value.slice E acc.length d).ownBlock = some g3 ∨ g3 = ((lay w5 [[min (ia : Int) (iz : Int), max (ia : Int) (iz : Int)], [(ia : Int)], [min (ia : Int) (iy : Int), max (ia : Int) (iy : Int)], [(ia : Int)]]).alloc (.cells (rowVals (rowsAt w5.heap.size [[min (ia : Int) (iz : Int), max (ia : Int) (iz : Int)], [(ia : Int)], [min (ia : Int) (iy : Int), max (ia : Int) (iy : Int)], [(ia : Int)]])).toArray 22)).heap.size := by rw [laid_size]; exact hat3
              have HJ := Lib.hid (Heads.join HH5.out hz5 HLB.out HLH.out (by rw [rowsAt_len]; exact hown3) hg3 hat3')
              have HBJ := Lib.hid ((below_then HB5.out HLB.out hz5).grown hg3 HBS.out (fun kk e => (HHA.out.lt kk e).1))
              clear hown3 hg3 hat3 hat3' hlt3
              have HLR : Hid ((acc ++ rowsAt w5.heap.size [[min (ia : Int) (iz : Int), max (ia : Int) (iz : Int)], [(ia : Int)], [min (ia : Int) (iy : Int), max (ia : Int) (iy : Int)], [(ia : Int)]]).length = acc.length + 4) := by show _ = _; rw [List.length_append, rowsAt_len]; rfl
              go_wp2
              go_roundw
              case rel => exact ⟨y, some ⟨g3, 0, none⟩, c3, acc ++ rowsAt w5.heap.size [[min (ia : Int) (iz : Int), max (ia : Int) (iz : Int)], [(ia : Int)], [min (ia : Int) (iy : Int), max (ia : Int) (iy : Int)], [(ia : Int)]], by omega, by omega, by go_num, by rw [HLR.out], by rw [show rowNums (acc ++ rowsAt w5.heap.size [[min (ia : Int) (iz : Int), max (ia : Int) (iz : Int)], [(ia : Int)], [min (ia : Int) (iy : Int), max (ia : Int) (iy : Int)], [(ia : Int)]]) = rowNums acc ++ rowNums (rowsAt w5.heap.size [[min (ia : Int) (iz : Int), max (ia : Int) (iz : Int)], [(ia : Int)], [min (ia : Int) (iy : Int), max (ia : Int) (iy : Int)], [(ia : Int)]]) by simp [rowNums], rowsAt_nums, List.append_assoc]; exact HAC.out, HJ.out, ⟨l ++ [101], rfl, HSN.out⟩, ⟨_, rfl, HEV3.out⟩, HBJ.out⟩
              case measure => simp [intOf]; omega
        · have hl1 : ¬ 2 * xb < xa + xy := by omega
          have hl2 : decide (2 * xb < xa + xy) = false := by simp; omega
          have HG := Lib.hid hg
          clear hg
          by_cases h0 : gainOf W y = 0
          · have HEV3 : Hid ((true || evenT W y) = EV) := by show _ = _; rw [← HEV2.out, h0]; simp
            have he1 : ((2 * xb : Int) == xa + xy) = true := by simp; omega
            clear hgn h0
            have HL : Hid ((round (!e) W y).map listT = [[min (ia : Int) (iz : Int), max (ia : Int) (iz : Int)], [(ia : Int)], [min (ia : Int) (iy : Int), max (ia : Int) (iy : Int)], [(ia : Int)]]) := by
              show _ = _
              have h := escort_lists (f := !e) (y := y) HGW.out (by omega) (by rw [HWL.out]; have := HKZ.out; have := HKY.out; omega) (by rw [show decide (0 < gainOf W y) = false from decide_eq_false HG.out, Bool.and_false])
              rw [HA1.out, HY1.out, show (wk W (y + 1)).1 = (iz : Int) by rw [show y + 1 = z by have := HKY.out; have := HKZ.out; omega]; exact HZ1.out] at h
              exact h
            have HAC : Hid (rowNums acc ++ ([[min (ia : Int) (iz : Int), max (ia : Int) (iz : Int)], [(ia : Int)], [min (ia : Int) (iy : Int), max (ia : Int) (iy : Int)], [(ia : Int)]] ++ (tripsT (!e) W y).map listT) = T) := by show _ = _; rw [← HL.out]; exact HT2.out
            have HSN : Hid (l ++ [101] ++ signsT (!e) W y = SG) := by show _ = _; rw [← HSG2.out, List.append_assoc, show signR (!e) W y = 101 from (by rw [signR, show decide (0 < gainOf W y) = false from decide_eq_false HG.out, Bool.and_false]; rfl)]; rfl
            have HMX := Lib.hid (show acc.length + 4 ≤ maxLen by unfold maxLen; omega)
            have HBY := Lib.hid (show (acc.length + 4) * 24 ≤ 140737488355328 by omega)
            have HBS := Lib.hid (show w1.heap.size ≤ ((lay w5 [[min (ia : Int) (iz : Int), max (ia : Int) (iz : Int)], [(ia : Int)], [min (ia : Int) (iy : Int), max (ia : Int) (iy : Int)], [(ia : Int)]]).alloc (.cells (rowVals (rowsAt w5.heap.size [[min (ia : Int) (iz : Int), max (ia : Int) (iz : Int)], [(ia : Int)], [min (ia : Int) (iy : Int), max (ia : Int) (iy : Int)], [(ia : Int)]])).toArray 22)).heap.size by rw [laid_size]; omega)
            have HLB := Lib.hid (lay_all [[min (ia : Int) (iz : Int), max (ia : Int) (iz : Int)], [(ia : Int)], [min (ia : Int) (iy : Int), max (ia : Int) (iy : Int)], [(ia : Int)]] w5 (.cells (rowVals (rowsAt w5.heap.size [[min (ia : Int) (iz : Int), max (ia : Int) (iz : Int)], [(ia : Int)], [min (ia : Int) (iy : Int), max (ia : Int) (iy : Int)], [(ia : Int)]])).toArray 22))
            have HHA := Lib.hid ((HH5.out.below (lay_all [[min (ia : Int) (iz : Int), max (ia : Int) (iz : Int)], [(ia : Int)], [min (ia : Int) (iy : Int), max (ia : Int) (iy : Int)], [(ia : Int)]] w5 (.cells (rowVals (rowsAt w5.heap.size [[min (ia : Int) (iz : Int), max (ia : Int) (iz : Int)], [(ia : Int)], [min (ia : Int) (iy : Int), max (ia : Int) (iy : Int)], [(ia : Int)]])).toArray 22))).1)
            have HLH := Lib.hid (lay_heads' [[min (ia : Int) (iz : Int), max (ia : Int) (iz : Int)], [(ia : Int)], [min (ia : Int) (iy : Int), max (ia : Int) (iy : Int)], [(ia : Int)]] w5 (by simp) (by show 4 ≤ maxLen; decide))
            cases ev
            all_goals
              go_wp2_with (first | (go_at_call 28; refine (prPair_any _ _ _).mono ?_; rintro e' w' ⟨rfl, rfl⟩) | (at_builtin; refine wpList_append_lies _ rfl (.tmp 86) (.tmp 97) 38 rfl w1.heap.size 22 i1 (.slice none 0 0) 1 24 Try.underlying38 RI.out RZ0.out RZ1.out RZ2.out rfl (by decide) (.slice E acc.length d) acc.length (rowVals acc) rfl HHA.out ⟨w5.heap.size + 4, 0, none⟩ 4 4 (rowVals (rowsAt w5.heap.size [[min (ia : Int) (iz : Int), max (ia : Int) (iz : Int)], [(ia : Int)], [min (ia : Int) (iy : Int), max (ia : Int) (iy : Int)], [(ia : Int)]])) rfl (rowsAt_vals _ _) (lay_news' [[min (ia : Int) (iz : Int), max (ia : Int) (iz : Int)], [(ia : Int)], [min (ia : Int) (iy : Int), max (ia : Int) (iy : Int)], [(ia : Int)]] w5) (rowVals_one' _) (by decide) HMX.out HBY.out HBS.out (w5.heap.size + 4 + 1) (laid_size [[min (ia : Int) (iz : Int), max (ia : Int) (iz : Int)], [(ia : Int)], [min (ia : Int) (iy : Int), max (ia : Int) (iy : Int)], [(ia : Int)]] _ _) ?_; intro g3 c3 w3 hown3 hg3 hat3 hlt3))
              have hat3' : (Value.slice E acc.length d).ownBlock = some g3 ∨ g3 = ((lay w5 [[min (ia : Int) (iz : Int), max (ia : Int) (iz : Int)], [(ia : Int)], [min (ia : Int) (iy : Int), max (ia : Int) (iy : Int)], [(ia : Int)]]).alloc (.cells (rowVals (rowsAt w5.heap.size [[min (ia : Int) (iz : Int), max (ia : Int) (iz : Int)], [(ia : Int)], [min (ia : Int) (iy : Int), max (ia : Int) (iy : Int)], [(ia : Int)]])).toArray 22)).heap.size := by rw [laid_size]; exact hat3
              have HJ := Lib.hid (Heads.join HH5.out hz5 HLB.out HLH.out (by rw [rowsAt_len]; exact hown3) hg3 hat3')
              have HBJ := Lib.hid ((below_then HB5.out HLB.out hz5).grown hg3 HBS.out (fun kk e => (HHA.out.lt kk e).1))
              clear hown3 hg3 hat3 hat3' hlt3
              have HLR : Hid ((acc ++ rowsAt w5.heap.size [[min (ia : Int) (iz : Int), max (ia : Int) (iz : Int)], [(ia : Int)], [min (ia : Int) (iy : Int), max (ia : Int) (iy : Int)], [(ia : Int)]]).length = acc.length + 4) := by show _ = _; rw [List.length_append, rowsAt_len]; rfl
              go_wp2
              go_roundw
              case rel => exact ⟨y, some ⟨g3, 0, none⟩, c3, acc ++ rowsAt w5.heap.size [[min (ia : Int) (iz : Int), max (ia : Int) (iz : Int)], [(ia : Int)], [min (ia : Int) (iy : Int), max (ia : Int) (iy : Int)], [(ia : Int)]], by omega, by omega, by go_num, by rw [HLR.out], by rw [show rowNums (acc ++ rowsAt w5.heap.size [[min (ia : Int) (iz : Int), max (ia : Int) (iz : Int)], [(ia : Int)], [min (ia : Int) (iy : Int), max (ia : Int) (iy : Int)], [(ia : Int)]]) = rowNums acc ++ rowNums (rowsAt w5.heap.size [[min (ia : Int) (iz : Int), max (ia : Int) (iz : Int)], [(ia : Int)], [min (ia : Int) (iy : Int), max (ia : Int) (iy : Int)], [(ia : Int)]]) by simp [rowNums], rowsAt_nums, List.append_assoc]; exact HAC.out, HJ.out, ⟨l ++ [101], rfl, HSN.out⟩, ⟨_, rfl, HEV3.out⟩, HBJ.out⟩
              case measure => simp [intOf]; omega
          · have HEV3 : Hid ((ev || evenT W y) = EV) := by show _ = _; rw [← HEV2.out, show decide (gainOf W y = 0) = false by simp [h0], Bool.false_or]
            have he1 : ((2 * xb : Int) == xa + xy) = false := by simp; omega
            clear hgn h0
            have HL : Hid ((round (!e) W y).map listT = [[min (ia : Int) (iz : Int), max (ia : Int) (iz : Int)], [(ia : Int)], [min (ia : Int) (iy : Int), max (ia : Int) (iy : Int)], [(ia : Int)]]) := by
              show _ = _
              have h := escort_lists (f := !e) (y := y) HGW.out (by omega) (by rw [HWL.out]; have := HKZ.out; have := HKY.out; omega) (by rw [show decide (0 < gainOf W y) = false from decide_eq_false HG.out, Bool.and_false])
              rw [HA1.out, HY1.out, show (wk W (y + 1)).1 = (iz : Int) by rw [show y + 1 = z by have := HKY.out; have := HKZ.out; omega]; exact HZ1.out] at h
              exact h
            have HAC : Hid (rowNums acc ++ ([[min (ia : Int) (iz : Int), max (ia : Int) (iz : Int)], [(ia : Int)], [min (ia : Int) (iy : Int), max (ia : Int) (iy : Int)], [(ia : Int)]] ++ (tripsT (!e) W y).map listT) = T) := by show _ = _; rw [← HL.out]; exact HT2.out
            have HSN : Hid (l ++ [101] ++ signsT (!e) W y = SG) := by show _ = _; rw [← HSG2.out, List.append_assoc, show signR (!e) W y = 101 from (by rw [signR, show decide (0 < gainOf W y) = false from decide_eq_false HG.out, Bool.and_false]; rfl)]; rfl
            have HMX := Lib.hid (show acc.length + 4 ≤ maxLen by unfold maxLen; omega)
            have HBY := Lib.hid (show (acc.length + 4) * 24 ≤ 140737488355328 by omega)
            have HBS := Lib.hid (show w1.heap.size ≤ ((lay w5 [[min (ia : Int) (iz : Int), max (ia : Int) (iz : Int)], [(ia : Int)], [min (ia : Int) (iy : Int), max (ia : Int) (iy : Int)], [(ia : Int)]]).alloc (.cells (rowVals (rowsAt w5.heap.size [[min (ia : Int) (iz : Int), max (ia : Int) (iz : Int)], [(ia : Int)], [min (ia : Int) (iy : Int), max (ia : Int) (iy : Int)], [(ia : Int)]])).toArray 22)).heap.size by rw [laid_size]; omega)
            have HLB := Lib.hid (lay_all [[min (ia : Int) (iz : Int), max (ia : Int) (iz : Int)], [(ia : Int)], [min (ia : Int) (iy : Int), max (ia : Int) (iy : Int)], [(ia : Int)]] w5 (.cells (rowVals (rowsAt w5.heap.size [[min (ia : Int) (iz : Int), max (ia : Int) (iz : Int)], [(ia : Int)], [min (ia : Int) (iy : Int), max (ia : Int) (iy : Int)], [(ia : Int)]])).toArray 22))
            have HHA := Lib.hid ((HH5.out.below (lay_all [[min (ia : Int) (iz : Int), max (ia : Int) (iz : Int)], [(ia : Int)], [min (ia : Int) (iy : Int), max (ia : Int) (iy : Int)], [(ia : Int)]] w5 (.cells (rowVals (rowsAt w5.heap.size [[min (ia : Int) (iz : Int), max (ia : Int) (iz : Int)], [(ia : Int)], [min (ia : Int) (iy : Int), max (ia : Int) (iy : Int)], [(ia : Int)]])).toArray 22))).1)
            have HLH := Lib.hid (lay_heads' [[min (ia : Int) (iz : Int), max (ia : Int) (iz : Int)], [(ia : Int)], [min (ia : Int) (iy : Int), max (ia : Int) (iy : Int)], [(ia : Int)]] w5 (by simp) (by show 4 ≤ maxLen; decide))
            cases ev
            all_goals
              go_wp2_with (first | (go_at_call 28; refine (prPair_any _ _ _).mono ?_; rintro e' w' ⟨rfl, rfl⟩) | (at_builtin; refine wpList_append_lies _ rfl (.tmp 86) (.tmp 97) 38 rfl w1.heap.size 22 i1 (.slice none 0 0) 1 24 Try.underlying38 RI.out RZ0.out RZ1.out RZ2.out rfl (by decide) (.slice E acc.length d) acc.length (rowVals acc) rfl HHA.out ⟨w5.heap.size + 4, 0, none⟩ 4 4 (rowVals (rowsAt w5.heap.size [[min (ia : Int) (iz : Int), max (ia : Int) (iz : Int)], [(ia : Int)], [min (ia : Int) (iy : Int), max (ia : Int) (iy : Int)], [(ia : Int)]])) rfl (rowsAt_vals _ _) (lay_news' [[min (ia : Int) (iz : Int), max (ia : Int) (iz : Int)], [(ia : Int)], [min (ia : Int) (iy : Int), max (ia : Int) (iy : Int)], [(ia : Int)]] w5) (rowVals_one' _) (by decide) HMX.out HBY.out HBS.out (w5.heap.size + 4 + 1) (laid_size [[min (ia : Int) (iz : Int), max (ia : Int) (iz : Int)], [(ia : Int)], [min (ia : Int) (iy : Int), max (ia : Int) (iy : Int)], [(ia : Int)]] _ _) ?_; intro g3 c3 w3 hown3 hg3 hat3 hlt3))
              have hat3' : (Value.slice E acc.length d).ownBlock = some g3 ∨ g3 = ((lay w5 [[min (ia : Int) (iz : Int), max (ia : Int) (iz : Int)], [(ia : Int)], [min (ia : Int) (iy : Int), max (ia : Int) (iy : Int)], [(ia : Int)]]).alloc (.cells (rowVals (rowsAt w5.heap.size [[min (ia : Int) (iz : Int), max (ia : Int) (iz : Int)], [(ia : Int)], [min (ia : Int) (iy : Int), max (ia : Int) (iy : Int)], [(ia : Int)]])).toArray 22)).heap.size := by rw [laid_size]; exact hat3
              have HJ := Lib.hid (Heads.join HH5.out hz5 HLB.out HLH.out (by rw [rowsAt_len]; exact hown3) hg3 hat3')
              have HBJ := Lib.hid ((below_then HB5.out HLB.out hz5).grown hg3 HBS.out (fun kk e => (HHA.out.lt kk e).1))
              clear hown3 hg3 hat3 hat3' hlt3
              have HLR : Hid ((acc ++ rowsAt w5.heap.size [[min (ia : Int) (iz : Int), max (ia : Int) (iz : Int)], [(ia : Int)], [min (ia : Int) (iy : Int), max (ia : Int) (iy : Int)], [(ia : Int)]]).length = acc.length + 4) := by show _ = _; rw [List.length_append, rowsAt_len]; rfl
              go_wp2
              go_roundw
              case rel => exact ⟨y, some ⟨g3, 0, none⟩, c3, acc ++ rowsAt w5.heap.size [[min (ia : Int) (iz : Int), max (ia : Int) (iz : Int)], [(ia : Int)], [min (ia : Int) (iy : Int), max (ia : Int) (iy : Int)], [(ia : Int)]], by omega, by omega, by go_num, by rw [HLR.out], by rw [show rowNums (acc ++ rowsAt w5.heap.size [[min (ia : Int) (iz : Int), max (ia : Int) (iz : Int)], [(ia : Int)], [min (ia : Int) (iy : Int), max (ia : Int) (iy : Int)], [(ia : Int)]]) = rowNums acc ++ rowNums (rowsAt w5.heap.size [[min (ia : Int) (iz : Int), max (ia : Int) (iz : Int)], [(ia : Int)], [min (ia : Int) (iy : Int), max (ia : Int) (iy : Int)], [(ia : Int)]]) by simp [rowNums], rowsAt_nums, List.append_assoc]; exact HAC.out, HJ.out, ⟨l ++ [101], rfl, HSN.out⟩, ⟨_, rfl, HEV3.out⟩, HBJ.out⟩
              case measure => simp [intOf]; omega
      · have hk3 : ¬ (3 : Int) < (k : Int) := by omega
        have hgt : decide ((3 : Int) < (k : Int)) = false := by simp; omega
        obtain ⟨iy, hy1, hy2, hy3, hy4, hy5, hy6, hy7⟩ := HID.out 0 (by omega)
        have hls : listT (wk W 0, wk W 1) = [min (ia : Int) (ib : Int), max (ia : Int) (ib : Int)] := by
          rw [list_pair (HGW.out.two 0 1 (by omega) (by rw [HWL.out]; omega)).2, HA1.out, HB1'.out]
        have HLS := Lib.hid hls
        have HTT := Lib.hid hT
        have HSS := Lib.hid hSG
        have HEE := Lib.hid hEV
        clear hT hSG hEV hh hb hls hy1 hy2 hy3 hy4 hy5 hy6 hy7
        have HMX := Lib.hid (show acc.length + 1 ≤ maxLen by unfold maxLen; omega)
        have HBY := Lib.hid (show (acc.length + 1) * 24 ≤ 140737488355328 by omega)
        have HBS := Lib.hid (show w1.heap.size ≤ ((lay wr [[min (ia : Int) (ib : Int), max (ia : Int) (ib : Int)]]).alloc (.cells (rowVals (rowsAt wr.heap.size [[min (ia : Int) (ib : Int), max (ia : Int) (ib : Int)]])).toArray 22)).heap.size by rw [laid_size]; omega)
        have HLB := Lib.hid (lay_all [[min (ia : Int) (ib : Int), max (ia : Int) (ib : Int)]] wr (.cells (rowVals (rowsAt wr.heap.size [[min (ia : Int) (ib : Int), max (ia : Int) (ib : Int)]])).toArray 22))
        have HHA := Lib.hid ((HH.out.below (lay_all [[min (ia : Int) (ib : Int), max (ia : Int) (ib : Int)]] wr (.cells (rowVals (rowsAt wr.heap.size [[min (ia : Int) (ib : Int), max (ia : Int) (ib : Int)]])).toArray 22))).1)
        have HLH := Lib.hid (lay_heads' [[min (ia : Int) (ib : Int), max (ia : Int) (ib : Int)]] wr (by simp) (by show 1 ≤ maxLen; decide))
        by_cases hk2' : k = 2
        · subst hk2'
          have HAC : Hid (rowNums acc ++ [[min (ia : Int) (ib : Int), max (ia : Int) (ib : Int)]] = T) := by show _ = _; rw [← HTT.out, show (tripsT (!e) W 2).map listT = [listT (wk W 0, wk W 1)] from rfl, HLS.out]
          have HSN : Hid (l = SG) := by show _ = _; rw [← HSS.out, show signsT (!e) W 2 = [] from rfl, List.append_nil]
          have HEN : Hid (ev = EV) := by show _ = _; rw [← HEE.out, show evenT W 2 = false from rfl, Bool.or_false]
          clear HTT HSS HEE
          go_wp2_with (first | (go_at_call 28; refine (prPair_any _ _ _).mono ?_; rintro e' w' ⟨rfl, rfl⟩) | (at_builtin; refine wpList_append_lies _ rfl (.tmp 103) (.tmp 107) 38 rfl w1.heap.size 22 i1 (.slice none 0 0) 1 24 Try.underlying38 RI.out RZ0.out RZ1.out RZ2.out rfl (by decide) (.slice E acc.length d) acc.length (rowVals acc) rfl HHA.out ⟨wr.heap.size + 1, 0, none⟩ 1 1 (rowVals (rowsAt wr.heap.size [[min (ia : Int) (ib : Int), max (ia : Int) (ib : Int)]])) rfl (rowsAt_vals _ _) (lay_news' [[min (ia : Int) (ib : Int), max (ia : Int) (ib : Int)]] wr) (rowVals_one' _) (by decide) HMX.out HBY.out HBS.out (wr.heap.size + 1 + 1) (laid_size [[min (ia : Int) (ib : Int), max (ia : Int) (ib : Int)]] _ _) ?_; intro g3 c3 w3 hown3 hg3 hat3 hlt3))
          have hat3' : (Value.slice E acc.length d).ownBlock = some g3 ∨ g3 = ((lay wr [[min (ia : Int) (ib : Int), max (ia : Int) (ib : Int)]]).alloc (.cells (rowVals (rowsAt wr.heap.size [[min (ia : Int) (ib : Int), max (ia : Int) (ib : Int)]])).toArray 22)).heap.size := by rw [laid_size]; exact hat3
          have HJ := Lib.hid (Heads.join HH.out hwz HLB.out HLH.out (by rw [rowsAt_len]; exact hown3) hg3 hat3')
          have HBJ := Lib.hid ((below_then HB.out HLB.out hwz).grown hg3 HBS.out (fun kk e => (HHA.out.lt kk e).1))
          clear hown3 hg3 hat3 hat3' hlt3
          have HLR : Hid ((acc ++ rowsAt wr.heap.size [[min (ia : Int) (ib : Int), max (ia : Int) (ib : Int)]]).length = acc.length + 1) := by show _ = _; rw [List.length_append, rowsAt_len]; rfl
          go_wp2
          refine bodyPost_ret (v := .tuple #[.slice (some ⟨g3, 0, none⟩) (acc.length + 1) c3, .string ⟨l.toArray⟩, .bool ev]) (by simp [results, Try.results21, go_sem]) rfl ?_
          exact ⟨_, _, acc ++ rowsAt wr.heap.size [[min (ia : Int) (ib : Int), max (ia : Int) (ib : Int)]], by rw [HLR.out, HSN.out, HEN.out], by rw [show rowNums (acc ++ rowsAt wr.heap.size [[min (ia : Int) (ib : Int), max (ia : Int) (ib : Int)]]) = rowNums acc ++ rowNums (rowsAt wr.heap.size [[min (ia : Int) (ib : Int), max (ia : Int) (ib : Int)]]) by simp [rowNums], rowsAt_nums]; exact HAC.out, HJ.out.raise hbs, below_then HB1.out HBJ.out hbs⟩
        · obtain rfl : k = 3 := by omega
          obtain ⟨ic, hc1, hc2, hc3, hc4, hc5, hc6, hc7⟩ := HID.out 2 (by omega)
          have hls2 : listT (wk W 0, wk W 2) = [min (ia : Int) (ic : Int), max (ia : Int) (ic : Int)] := by
            rw [list_pair (HGW.out.two 0 2 (by omega) (by rw [HWL.out]; omega)).2, HA1.out, hc1]
          have HAC : Hid (rowNums acc ++ [[min (ia : Int) (ib : Int), max (ia : Int) (ib : Int)]] ++ [[(ia : Int)], [min (ia : Int) (ic : Int), max (ia : Int) (ic : Int)]] = T) := by
            show _ = _
            rw [← HTT.out, show (tripsT (!e) W 3).map listT = [listT (wk W 0, wk W 1), listT (wk W 0, wk W 0), listT (wk W 0, wk W 2)] from rfl, HLS.out, list_alone, hls2, HA1.out, List.append_assoc]
            rfl
          have HSN : Hid (l = SG) := by show _ = _; rw [← HSS.out, show signsT (!e) W 3 = [] from rfl, List.append_nil]
          have HEN : Hid (ev = EV) := by show _ = _; rw [← HEE.out, show evenT W 3 = false from rfl, Bool.or_false]
          have HC6 := Lib.hid hc6
          have h2n : (2 : Int) < (n : Int) := by omega
          clear HTT HSS HEE hls2 hc1 hc2 hc3 hc4 hc5 hc6 hc7 hk2'
          go_upto_region 19 with (first | (go_at_call 28; refine (prPair_any _ _ _).mono ?_; rintro e' w' ⟨rfl, rfl⟩) | (at_builtin; refine wpList_append_lies _ rfl (.tmp 103) (.tmp 107) 38 rfl w1.heap.size 22 i1 (.slice none 0 0) 1 24 Try.underlying38 RI.out RZ0.out RZ1.out RZ2.out rfl (by decide) (.slice E acc.length d) acc.length (rowVals acc) rfl HHA.out ⟨wr.heap.size + 1, 0, none⟩ 1 1 (rowVals (rowsAt wr.heap.size [[min (ia : Int) (ib : Int), max (ia : Int) (ib : Int)]])) rfl (rowsAt_vals _ _) (lay_news' [[min (ia : Int) (ib : Int), max (ia : Int) (ib : Int)]] wr) (rowVals_one' _) (by decide) HMX.out HBY.out HBS.out (wr.heap.size + 1 + 1) (laid_size [[min (ia : Int) (ib : Int), max (ia : Int) (ib : Int)]] _ _) ?_; intro g3 c3 w3 hown3 hg3 hat3 hlt3))
          have hat3' : (Value.slice E acc.length d).ownBlock = some g3 ∨ g3 = ((lay wr [[min (ia : Int) (ib : Int), max (ia : Int) (ib : Int)]]).alloc (.cells (rowVals (rowsAt wr.heap.size [[min (ia : Int) (ib : Int), max (ia : Int) (ib : Int)]])).toArray 22)).heap.size := by rw [laid_size]; exact hat3
          have HJ := Lib.hid (Heads.join HH.out hwz HLB.out HLH.out (by rw [rowsAt_len]; exact hown3) hg3 hat3')
          have HBJ := Lib.hid ((below_then HB.out HLB.out hwz).grown hg3 HBS.out (fun kk e => (HHA.out.lt kk e).1))
          clear hown3 hg3 hat3 hat3' hlt3
          have HLR : Hid ((acc ++ rowsAt wr.heap.size [[min (ia : Int) (ib : Int), max (ia : Int) (ib : Int)]]).length = acc.length + 1) := by show _ = _; rw [List.length_append, rowsAt_len]; rfl
          have hz3 : w1.heap.size ≤ w3.heap.size := HBJ.out.size
          have HMX2 := Lib.hid (show acc.length + 1 + 2 ≤ maxLen by unfold maxLen; omega)
          have HBY2 := Lib.hid (show (acc.length + 1 + 2) * 24 ≤ 140737488355328 by omega)
          have HBS2 := Lib.hid (show w1.heap.size ≤ ((lay w3 [[(ia : Int)], [min (ia : Int) (ic : Int), max (ia : Int) (ic : Int)]]).alloc (.cells (rowVals (rowsAt w3.heap.size [[(ia : Int)], [min (ia : Int) (ic : Int), max (ia : Int) (ic : Int)]])).toArray 22)).heap.size by rw [laid_size]; omega)
          have HLB2 := Lib.hid (lay_all [[(ia : Int)], [min (ia : Int) (ic : Int), max (ia : Int) (ic : Int)]] w3 (.cells (rowVals (rowsAt w3.heap.size [[(ia : Int)], [min (ia : Int) (ic : Int), max (ia : Int) (ic : Int)]])).toArray 22))
          have hha2 := (HJ.out.below (lay_all [[(ia : Int)], [min (ia : Int) (ic : Int), max (ia : Int) (ic : Int)]] w3 (.cells (rowVals (rowsAt w3.heap.size [[(ia : Int)], [min (ia : Int) (ic : Int), max (ia : Int) (ic : Int)]])).toArray 22))).1
          rw [HLR.out] at hha2
          have HHA2 := Lib.hid hha2
          have HLH2 := Lib.hid (lay_heads' [[(ia : Int)], [min (ia : Int) (ic : Int), max (ia : Int) (ic : Int)]] w3 (by simp) (by show 2 ≤ maxLen; decide))
          have hoc := (HBJ.out.cell (p := ⟨g, 2, none⟩) hgl).trans HC6.out
          have hol := (w3.cell?_alloc_lt (.cells #[.int .i64 ia] 3) ⟨g, 2, none⟩ (Nat.lt_of_lt_of_le hgl hz3)).trans hoc
          clear hha2 hoc
          go_wp2_with (first | (go_at_call 28; refine (prPair_any _ _ _).mono ?_; rintro e' w' ⟨rfl, rfl⟩) | (at_builtin; refine wpList_append_lies _ rfl (.tmp 111) (.tmp 119) 38 rfl w1.heap.size 22 i1 (.slice none 0 0) 1 24 Try.underlying38 RI.out RZ0.out RZ1.out RZ2.out rfl (by decide) (.slice (some ⟨g3, 0, none⟩) (acc.length + 1) c3) (acc.length + 1) (rowVals (acc ++ rowsAt wr.heap.size [[min (ia : Int) (ib : Int), max (ia : Int) (ib : Int)]])) rfl HHA2.out ⟨w3.heap.size + 2, 0, none⟩ 2 2 (rowVals (rowsAt w3.heap.size [[(ia : Int)], [min (ia : Int) (ic : Int), max (ia : Int) (ic : Int)]])) rfl (rowsAt_vals _ _) (lay_news' [[(ia : Int)], [min (ia : Int) (ic : Int), max (ia : Int) (ic : Int)]] w3) (rowVals_one' _) (by decide) HMX2.out HBY2.out HBS2.out (w3.heap.size + 2 + 1) (laid_size [[(ia : Int)], [min (ia : Int) (ic : Int), max (ia : Int) (ic : Int)]] _ _) ?_; intro g4 c4 w4 hown4 hg4 hat4 hlt4))
          have hat4' : (Value.slice (some ⟨g3, 0, none⟩) (acc ++ rowsAt wr.heap.size [[min (ia : Int) (ib : Int), max (ia : Int) (ib : Int)]]).length c3).ownBlock = some g4 ∨ g4 = ((lay w3 [[(ia : Int)], [min (ia : Int) (ic : Int), max (ia : Int) (ic : Int)]]).alloc (.cells (rowVals (rowsAt w3.heap.size [[(ia : Int)], [min (ia : Int) (ic : Int), max (ia : Int) (ic : Int)]])).toArray 22)).heap.size := by rw [laid_size]; exact hat4
          have HJ4 := Lib.hid (Heads.join HJ.out hz3 HLB2.out HLH2.out (by rw [rowsAt_len, HLR.out]; exact hown4) hg4 hat4')
          have HBJ4 := Lib.hid ((below_then HBJ.out HLB2.out hz3).grown hg4 HBS2.out (fun kk e => (HHA2.out.lt kk e).1))
          have HLR4 : Hid ((acc ++ rowsAt wr.heap.size [[min (ia : Int) (ib : Int), max (ia : Int) (ib : Int)]] ++ rowsAt w3.heap.size [[(ia : Int)], [min (ia : Int) (ic : Int), max (ia : Int) (ic : Int)]]).length = acc.length + 1 + 2) := by show _ = _; rw [List.length_append, HLR.out, rowsAt_len]; rfl
          clear hown4 hg4 hat4 hat4' hlt4
          go_wp2
          refine bodyPost_ret (v := .tuple #[.slice (some ⟨g4, 0, none⟩) (acc.length + 1 + 2) c4, .string ⟨l.toArray⟩, .bool ev]) (by simp [results, Try.results21, go_sem]) rfl ?_
          exact ⟨_, _, acc ++ rowsAt wr.heap.size [[min (ia : Int) (ib : Int), max (ia : Int) (ib : Int)]] ++ rowsAt w3.heap.size [[(ia : Int)], [min (ia : Int) (ic : Int), max (ia : Int) (ic : Int)]], by rw [HLR4.out, HSN.out, HEN.out], by rw [show rowNums (acc ++ rowsAt wr.heap.size [[min (ia : Int) (ib : Int), max (ia : Int) (ib : Int)]] ++ rowsAt w3.heap.size [[(ia : Int)], [min (ia : Int) (ic : Int), max (ia : Int) (ic : Int)]]) = rowNums acc ++ rowNums (rowsAt wr.heap.size [[min (ia : Int) (ib : Int), max (ia : Int) (ib : Int)]]) ++ rowNums (rowsAt w3.heap.size [[(ia : Int)], [min (ia : Int) (ic : Int), max (ia : Int) (ic : Int)]]) by simp [rowNums], rowsAt_nums, rowsAt_nums]; exact HAC.out, HJ4.out.raise hbs, below_then HB1.out HBJ4.out hbs⟩
end Go.Proofs.Ytpefgleipjjneaa
