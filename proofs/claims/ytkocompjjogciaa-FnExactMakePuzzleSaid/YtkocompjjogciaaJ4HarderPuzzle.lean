/-
  What is proved: the contract of the model's prTrips: the trips of two at once, the signs of their rounds, and whether one was even. Conditions: one to twelve times, each from 1 to 1000, read as they lie.
  What is proved: contracts of the model's sums of the times of trips (paSum, prSum, prTime), and that they are the program's. Conditions: the trips are some of these people's; at most forty.
  What is proved: contracts of PairTime, of the model and of the program. Conditions: the times are read as they lie.
  What is proved: the contract of the program's EscortTime. Conditions: the times are read as they lie.
  What is proved: contracts of the model's tests of clues and puzzles. Conditions: the clues are read as they lie.
  What is proved: contracts of the model's values that clues tell and of its test whether times fit a clue. Conditions: hidden times, read as they lie; a clue of them.
  What is proved: contracts of the program's clue of a kind that times fit, and of its test whether times fit a clue. Conditions: hidden times, read as they lie; a clue of them.
  What is proved: the contract of the program's test whether times fit a clue; DoesFit of both sides. Conditions: hidden times, read as they lie; a clue of them.
  What is proved: plain facts on lists that go on from beginnings, and on a list of lists that is written through a pointer. Conditions: none.
  What is proved: the contract of the model's search for hidden times that fit all clues. Conditions: a puzzle whose clues are read as they lie.
  What is proved: contracts of the program's test whether some clue is not fit (slices.ContainsFunc with a closure). Conditions: the clues and the hidden times are read as they lie; they are clues of them.
  What is proved: the contract of the model's search for hidden times that fit all clues, at any beginning; of all solutions; of the model's Solutions and what counts them. Conditions: a puzzle whose clues are read as they lie.
  What is proved: some rows of a list of lists of the call's own are one of the call's own. Conditions: none beyond the reading itself.
-/
import Derived.Deep.DeepCutAuto
import Derived.Deep.RegionHeld3
import Derived.Deep.AppendLies
import Derived.Test.YtkocompjjogciaaJ3HarderPuzzle
set_option linter.unusedSimpArgs false
set_option linter.unusedVariables false
namespace Go.Proofs.Ytkocompjjogciaa
open Go.RowKit

/-- What prTrips hands back. -/
def PrPost (ls : List (List Int)) (sg : List UInt8) (ev : Bool) (w : World) (e : Ending) (w' : World) : Prop :=
  ∃ (E : Option Addr) (d : Nat) (rs : List RowV), e = .returned (.tuple #[.slice E rs.length d, .string ⟨sg.toArray⟩, .bool ev]) ∧ rowNums rs = ls ∧ Heads w' w.heap.size E d rs ∧ Below w.heap.size w w'
/-- The list of trips, under way. -/
def PrTo (T : List (List Int)) (SG : List UInt8) (EV : Bool) (f : Bool) (W : List Wk) (k lo : Nat) (w1 wr : World) (v12 v13 : Value) (E : Option Addr) (d : Nat) (acc : List RowV) : Prop :=
  rowNums acc ++ (tripsT f W k).map listT = T ∧ Heads wr lo E d acc ∧ (∃ l : List UInt8, v12 = .string ⟨l.toArray⟩ ∧ l ++ signsT f W k = SG) ∧ (∃ ev : Bool, v13 = .bool ev ∧ (ev || evenT W k) = EV) ∧ Below lo w1 wr

set_option maxHeartbeats 12800000 in
set_option maxRecDepth 100000 in
theorem prTrips_any (A : Option Addr) (n c : Nat) (xs : List Int) (e : Bool) (w : World) (hA : Holds w A (nums xs)) (hx : xs.length = n) (hp : prOk xs = true) :
    Calls Try.prog 182 #[.slice A n c, .bool e] w (PrPost ((tripsT (!e) (mk xs (ord xs)) n).map listT) (signsT (!e) (mk xs (ord xs)) n) (evenT (mk xs (ord xs)) n) w) := by
  obtain ⟨i1, ri, rz0, rz1, rz2⟩ := info_parts info_row
  have RI := Lib.hid ri
  have RZ0 := Lib.hid rz0
  have RZ1 := Lib.hid rz1
  have RZ2 := Lib.hid rz2
  have HX := Lib.hid hx
  obtain ⟨h1, h12, hmild⟩ := prOk_parts hp
  rw [hx] at h1 h12
  have HGW := Lib.hid (good_ord xs)
  have HWL : Hid ((mk xs (ord xs)).length = n) := by show _ = _; rw [mk_len, ord_len, hx]
  have HM := Lib.hid hmild
  have HORD : Hid (ordTo xs n = ord xs) := by show _ = _; rw [ord, hx]
  have HWI := Lib.hid (fun (k : Nat) (hk : k < (ord xs).length) => wk_mk (xs := xs) hk)
  have HOL : Hid ((ord xs).length = n) := by show _ = _; rw [ord_len, hx]
  generalize hW : mk xs (ord xs) = W at HGW HWL HWI ⊢
  generalize hT : (tripsT (!e) W n).map listT = T
  generalize hSG : signsT (!e) W n = SG
  generalize hEV : evenT W n = EV
  have HT := Lib.hid hT
  have HSG := Lib.hid hSG
  have HEV := Lib.hid hEV
  have htl : T.length ≤ 24 := by
    have := trips_len (!e) W n
    rw [← hT, List.length_map]
    omega
  have hsl : SG.length ≤ 12 := by
    have := signsT_len (!e) W n
    rw [← hSG]
    omega
  clear hx hp hmild hW hT hSG hEV ri rz0 rz1 rz2
  go_enter Try.func182, Try.ntmps182
  go_wp2_with fail
  refine (prOrder_any A n c xs _ hA HX.out (by omega)).mono ?_
  rintro e' w1 ⟨A1, c1, rfl, hown, hb⟩
  rw [ordTo_len] at hown ⊢
  have hbs : w.heap.size ≤ w1.heap.size := hb.size
  have HB1 := Lib.hid hb
  rcases own_some hown with ⟨-, h0, -⟩ | ⟨g, rfl, hnc⟩
  · omega
  obtain ⟨hgl, -, hcells⟩ := own_cells hown
  rw [HORD.out] at hcells
  have HOC := Lib.hid hcells
  clear hown hb hcells
  by_cases hn1 : n = 1
  · subst hn1
    have HL1 := Lib.hid (lay_heads' [[0]] w1 (by simp) (by decide))
    have HB2 := Lib.hid (below_then HB1.out (lay_all [[0]] w1 (.cells (rowVals (rowsAt w1.heap.size [[0]])).toArray 22)) hbs)
    have hT1 : T = [[0]] := by
      rw [← HT.out]
      have h := HWI.out 0 (by rw [HOL.out]; exact Nat.one_pos)
      have hm := ord_mem (List.getElem_mem (by rw [HOL.out]; exact Nat.one_pos : 0 < (ord xs).length))
      rw [HX.out] at hm
      have hz : (wk W 0).1 = 0 := by rw [h]; omega
      show [listT (wk W 0, wk W 0)] = _
      rw [list_alone, hz]
    have HT1 := Lib.hid hT1
    have HS1 : Hid (SG = []) := by show _ = _; rw [← HSG.out]; rfl
    have HE1 : Hid (EV = false) := by show _ = _; rw [← HEV.out]; rfl
    clear hT1 HT HSG HEV
    go_wp2
    refine bodyPost_ret (v := .tuple #[.slice (some ⟨w1.heap.size + 1, 0, none⟩) 1 1, .string ⟨#[]⟩, .bool false]) (by simp [results, Try.results182, go_sem]) rfl ?_
    rw [HT1.out, HS1.out, HE1.out]
    exact ⟨_, _, rowsAt w1.heap.size [[0]], rfl, rowsAt_nums _ _, HL1.out.raise hbs, HB2.out⟩
  · have hne1 : ((n : Int) == 1) = false := by simp; omega
    have hn2 : 2 ≤ n := by omega
    obtain ⟨bA, oA, rfl, hblA, -⟩ := hA.look (k := 0) (by rw [nums_len, HX.out]; omega)
    have hid : ∀ k, k < n → ∃ i : Nat, (wk W k).1 = (i : Int) ∧ i < n ∧ (wk W k).2 = tm xs i ∧ 1 ≤ tm xs i ∧ tm xs i ≤ 1000 ∧ w1.cell? ⟨g, k, none⟩ = some (.int .i64 i) ∧ w1.cell? ⟨bA, oA + i, none⟩ = some (.int .i64 (tm xs i)) := by
      intro k hk
      have hko : k < (ord xs).length := by rw [HOL.out]; exact hk
      have hwk := HWI.out k hko
      have hm := ord_mem (List.getElem_mem hko)
      obtain ⟨i, hi⟩ := Int.eq_ofNat_of_zero_le hm.1
      have hix : i < xs.length := by omega
      obtain ⟨b2, o2, hab, -, hc2⟩ := hA.look (k := i) (by rw [nums_len]; exact hix)
      obtain ⟨rfl, rfl⟩ : bA = b2 ∧ oA = o2 := by simpa using hab
      have hxi := HM.out _ (List.getElem_mem hix)
      have htm := tm_at hix
      refine ⟨i, by rw [hwk]; exact hi, by have := HX.out; omega, by rw [hwk, hi], by rw [htm]; exact hxi.1, by rw [htm]; exact hxi.2, HOC.out k _ (by simp [nums, hko, hi]), ?_⟩
      rw [HB1.out.cell (p := ⟨bA, oA + i, none⟩) hblA, hc2]
      simp [nums, htm]
    have HID := Lib.hid hid
    obtain ⟨ia, ha1, ha2, ha3, ha4, ha5, ha6, ha7⟩ := hid 0 (by omega)
    obtain ⟨ib, hb1, hb2, hb3, hb4, hb5, hb6, hb7⟩ := hid 1 (by omega)
    have HA1 := Lib.hid ha1
    have HA3 := Lib.hid ha3
    have HB1' := Lib.hid hb1
    have HB3 := Lib.hid hb3
    have h0n : (0 : Int) < (n : Int) := by omega
    have h1n : (1 : Int) < (n : Int) := by omega
    have hbA1 : bA < w1.heap.size := Nat.lt_of_lt_of_le hblA hbs
    clear hid ha1 ha3 hb1 hb3 hn1
    go_wp2_with fail
    go_quiet (fail)
    rename_i nq
    clear ha6 hb6
    go_wp2_with fail
    go_loopw [8, 11, 12, 13] (fun v8 v11 v12 v13 wr => ∃ (k : Nat) (E : Option Addr) (d : Nat) (acc : List RowV), 2 ≤ k ∧ k ≤ n ∧ v8 = .int .i64 k ∧ v11 = .slice E acc.length d ∧ PrTo T SG EV (!e) W k w1.heap.size w1 wr v12 v13 E d acc) (fun v8 _ _ _ _ => (intOf v8).toNat)
    case atStart => exact ⟨n, none, 0, [], hn2, Nat.le_refl _, rfl, rfl, HT.out, Heads.nil _ _, ⟨[], rfl, HSG.out⟩, ⟨false, rfl, HEV.out⟩, below_draws (Below.refl _ _) _⟩
    case round =>
      obtain ⟨k, E, d, acc, hk2, hkn, rfl, rfl, hT, hh, ⟨l, rfl, hSG⟩, ⟨ev, rfl, hEV⟩, hb⟩ := hrel
      have hwz : w1.heap.size ≤ wr.heap.size := hb.size
      have hal : acc.length ≤ 24 := by
        have h := congrArg List.length hT
        rw [List.length_append, rowNums_len] at h
        omega
      have hll : l.length ≤ 12 := by
        have h := congrArg List.length hSG
        rw [List.length_append] at h
        omega
      have HH := Lib.hid hh
      have HB := Lib.hid hb
      by_cases hk4 : 4 ≤ k
      · obtain ⟨y, hky⟩ : ∃ y, y + 2 = k := ⟨k - 2, by omega⟩
        obtain ⟨z, hkz⟩ : ∃ z, z + 1 = k := ⟨k - 1, by omega⟩
        obtain ⟨iy, hy1, hy2, hy3, hy4, hy5, hy6, hy7⟩ := HID.out y (by omega)
        obtain ⟨iz, hz1, hz2, hz3, hz4, hz5, hz6, hz7⟩ := HID.out z (by omega)
        have hT2 : rowNums acc ++ ((round (!e) W y).map listT ++ (tripsT (!e) W y).map listT) = T := by rw [← tripsM_step (!e) W hk4 hky]; exact hT
        have hSG2 : l ++ (signR (!e) W y :: signsT (!e) W y) = SG := by rw [← signsT_step (!e) W hk4 hky]; exact hSG
        have hEV2 : (ev || (decide (gainOf W y = 0) || evenT W y)) = EV := by rw [← evenT_step W hk4 hky]; exact hEV
        have hgain : gainOf W y = tm xs ia + tm xs iy - 2 * tm xs ib := by
          show (wk W 0).2 + (wk W y).2 - 2 * (wk W 1).2 = _
          rw [HA3.out, HB3.out, hy3]
        have hs2 : (k : Int) - 2 = (y : Int) := by omega
        have hs1 : (k : Int) - 1 = (z : Int) := by omega
        have hw2 : IntKind.i64.wrap ((k : Int) - 2) = (y : Int) := by rw [hs2]; exact IntWalk.i64_in _ (by omega)
        have hw1 : IntKind.i64.wrap ((k : Int) - 1) = (z : Int) := by rw [hs1]; exact IntWalk.i64_in _ (by omega)
        have hwy : IntKind.i64.wrap (y : Int) = (y : Int) := IntWalk.i64_in _ (by omega)
        have hwz' : IntKind.i64.wrap (z : Int) = (z : Int) := IntWalk.i64_in _ (by omega)
        have hk3 : (3 : Int) < (k : Int) := by omega
        have hyn : (y : Int) < (n : Int) := by omega
        have hzn : (z : Int) < (n : Int) := by omega
        have hiy : (iy : Int) < (n : Int) := by omega
        have hia : (ia : Int) < (n : Int) := by omega
        have hib : (ib : Int) < (n : Int) := by omega
        have cy := (hb.cell (p := ⟨g, y, none⟩) hgl).trans hy6
        have cz := (hb.cell (p := ⟨g, z, none⟩) hgl).trans hz6
        have ty := (hb.cell (p := ⟨bA, oA + iy, none⟩) hbA1).trans hy7
        have ta := (hb.cell (p := ⟨bA, oA + ia, none⟩) hbA1).trans ha7
        have tb := (hb.cell (p := ⟨bA, oA + ib, none⟩) hbA1).trans hb7
        generalize tm xs ia = xa at *
        generalize tm xs ib = xb at *
        generalize tm xs iy = xy at *
        have hm1 : IntKind.i64.wrap (2 * xb) = 2 * xb := IntWalk.i64_in _ (by omega)
        have hm2 : IntKind.i64.wrap (xa + xy) = xa + xy := IntWalk.i64_in _ (by omega)
        have HT2 := Lib.hid hT2
        have HSG2 := Lib.hid hSG2
        have HEV2 := Lib.hid hEV2
        have HGN := Lib.hid hgain
        have HY1 := Lib.hid hy1
        have HZ1 := Lib.hid hz1
        have HKY := Lib.hid hky
        have HKZ := Lib.hid hkz
        clear hT hSG hEV hT2 hSG2 hEV2 hgain hy1 hz1 hy3 hz3 hky hkz hh hb hy6 hz6 hy7 hz7
        go_wp2_with fail
        go_quiet (fail)
        rename_i nq1
        go_wp2_with fail
        go_quiet (fail)
        rename_i nq2
        clear cy cz ty ta tb
        refine (?_ : ∀ W0 : World, Below wr.heap.size wr W0 → Exit.then _ _ _ _ W0) _ (below_draws (below_draws (Below.refl _ _) _) _)
        intro w5 hb5
        have hz5 : w1.heap.size ≤ w5.heap.size := Nat.le_trans hwz hb5.size
        have HH5 := Lib.hid (HH.out.below hb5)
        have HB5 := Lib.hid (below_then HB.out hb5 hwz)
        clear hb5
        have hcat := fun (ch : UInt8) (W : World) => cat_sign l ch (by omega) W
        have hgn := HGN.out
        by_cases hg : 0 < gainOf W y
        · have hl1 : 2 * xb < xa + xy := by omega
          have HEV3 : Hid ((ev || evenT W y) = EV) := by show _ = _; rw [← HEV2.out]; congr 1; rw [show decide (gainOf W y = 0) = false by simp; omega, Bool.false_or]
          have he1 : ((2 * xb : Int) == xa + xy) = false := by simp; omega
          have HG := Lib.hid hg
          clear hgn hg
          cases e
          · have HL : Hid ((round (!false) W y).map listT = [[min (ia : Int) (ib : Int), max (ia : Int) (ib : Int)], [(ia : Int)], [min (iy : Int) (iz : Int), max (iy : Int) (iz : Int)], [(ib : Int)]]) := by
              show _ = _
              have h := fetch_lists HGW.out (by omega) (by rw [HWL.out]; have := HKZ.out; have := HKY.out; omega) HG.out
              rw [HA1.out, HB1'.out, HY1.out, show (wk W (y + 1)).1 = (iz : Int) by rw [show y + 1 = z by have := HKY.out; have := HKZ.out; omega]; exact HZ1.out] at h
              exact h
            have HAC : Hid (rowNums acc ++ ([[min (ia : Int) (ib : Int), max (ia : Int) (ib : Int)], [(ia : Int)], [min (iy : Int) (iz : Int), max (iy : Int) (iz : Int)], [(ib : Int)]] ++ (tripsT (!false) W y).map listT) = T) := by show _ = _; rw [← HL.out]; exact HT2.out
            have HSN : Hid (l ++ [102] ++ signsT (!false) W y = SG) := by show _ = _; rw [← HSG2.out, List.append_assoc, show signR (!false) W y = 102 from if_pos (by simp [HG.out])]; rfl
            have HMX := Lib.hid (show acc.length + 4 ≤ maxLen by unfold maxLen; omega)
            have HBY := Lib.hid (show (acc.length + 4) * 24 ≤ 140737488355328 by omega)
            have HBS := Lib.hid (show w1.heap.size ≤ ((lay w5 [[min (ia : Int) (ib : Int), max (ia : Int) (ib : Int)], [(ia : Int)], [min (iy : Int) (iz : Int), max (iy : Int) (iz : Int)], [(ib : Int)]]).alloc (.cells (rowVals (rowsAt w5.heap.size [[min (ia : Int) (ib : Int), max (ia : Int) (ib : Int)], [(ia : Int)], [min (iy : Int) (iz : Int), max (iy : Int) (iz : Int)], [(ib : Int)]])).toArray 22)).heap.size by rw [laid_size]; omega)
            have HLB := Lib.hid (lay_all [[min (ia : Int) (ib : Int), max (ia : Int) (ib : Int)], [(ia : Int)], [min (iy : Int) (iz : Int), max (iy : Int) (iz : Int)], [(ib : Int)]] w5 (.cells (rowVals (rowsAt w5.heap.size [[min (ia : Int) (ib : Int), max (ia : Int) (ib : Int)], [(ia : Int)], [min (iy : Int) (iz : Int), max (iy : Int) (iz : Int)], [(ib : Int)]])).toArray 22))
            have HHA := Lib.hid ((HH5.out.below (lay_all [[min (ia : Int) (ib : Int), max (ia : Int) (ib : Int)], [(ia : Int)], [min (iy : Int) (iz : Int), max (iy : Int) (iz : Int)], [(ib : Int)]] w5 (.cells (rowVals (rowsAt w5.heap.size [[min (ia : Int) (ib : Int), max (ia : Int) (ib : Int)], [(ia : Int)], [min (iy : Int) (iz : Int), max (iy : Int) (iz : Int)], [(ib : Int)]])).toArray 22))).1)
            have HLH := Lib.hid (lay_heads' [[min (ia : Int) (ib : Int), max (ia : Int) (ib : Int)], [(ia : Int)], [min (iy : Int) (iz : Int), max (iy : Int) (iz : Int)], [(ib : Int)]] w5 (by simp) (by show 4 ≤ maxLen; decide))
            cases ev
            all_goals
              go_wp2_with (first | (go_at_call 199; refine (prPair_any _ _ _).mono ?_; rintro e' w' ⟨rfl, rfl⟩) | (at_builtin; refine wpList_append_lies _ rfl (.tmp 71) (.tmp 82) 28 rfl w1.heap.size 22 i1 (.slice none 0 0) 1 24 Try.underlying28 RI.out RZ0.out RZ1.out RZ2.out rfl (by decide) (.slice E acc.length d) acc.length (rowVals acc) rfl HHA.out ⟨w5.heap.size + 4, 0, none⟩ 4 4 (rowVals (rowsAt w5.heap.size [[min (ia : Int) (ib : Int), max (ia : Int) (ib : Int)], [(ia : Int)], [min (iy : Int) (iz : Int), max (iy : Int) (iz : Int)], [(ib : Int)]])) rfl (rowsAt_vals _ _) (lay_news' [[min (ia : Int) (ib : Int), max (ia : Int) (ib : Int)], [(ia : Int)], [min (iy : Int) (iz : Int), max (iy : Int) (iz : Int)], [(ib : Int)]] w5) (rowVals_one' _) (by decide) HMX.out HBY.out HBS.out (w5.heap.size + 4 + 1) (laid_size [[min (ia : Int) (ib : Int), max (ia : Int) (ib : Int)], [(ia : Int)], [min (iy : Int) (iz : Int), max (iy : Int) (iz : Int)], [(ib : Int)]] _ _) ?_; intro g3 c3 w3 hown3 hg3 hat3 hlt3))
              have hat3' : (Value.slice E acc.length d).ownBlock = some g3 ∨ g3 = ((lay w5 [[min (ia : Int) (ib : Int), max (ia : Int) (ib : Int)], [(ia : Int)], [min (iy : Int) (iz : Int), max (iy : Int) (iz : Int)], [(ib : Int)]]).alloc (.cells (rowVals (rowsAt w5.heap.size [[min (ia : Int) (ib : Int), max (ia : Int) (ib : Int)], [(ia : Int)], [min (iy : Int) (iz : Int), max (iy : Int) (iz : Int)], [(ib : Int)]])).toArray 22)).heap.size := by rw [laid_size]; exact hat3
              have HJ := Lib.hid (Heads.join HH5.out hz5 HLB.out HLH.out (by rw [rowsAt_len]; exact hown3) hg3 hat3')
              have HBJ := Lib.hid ((below_then HB5.out HLB.out hz5).grown hg3 HBS.out (fun kk e => (HHA.out.lt kk e).1))
              clear hown3 hg3 hat3 hat3' hlt3
              have HLR : Hid ((acc ++ rowsAt w5.heap.size [[min (ia : Int) (ib : Int), max (ia : Int) (ib : Int)], [(ia : Int)], [min (iy : Int) (iz : Int), max (iy : Int) (iz : Int)], [(ib : Int)]]).length = acc.length + 4) := by show _ = _; rw [List.length_append, rowsAt_len]; rfl
              go_wp2
              go_roundw
              case rel => exact ⟨y, some ⟨g3, 0, none⟩, c3, acc ++ rowsAt w5.heap.size [[min (ia : Int) (ib : Int), max (ia : Int) (ib : Int)], [(ia : Int)], [min (iy : Int) (iz : Int), max (iy : Int) (iz : Int)], [(ib : Int)]], by omega, by omega, by go_num, by rw [HLR.out], by rw [show rowNums (acc ++ rowsAt w5.heap.size [[min (ia : Int) (ib : Int), max (ia : Int) (ib : Int)], [(ia : Int)], [min (iy : Int) (iz : Int), max (iy : Int) (iz : Int)], [(ib : Int)]]) = rowNums acc ++ rowNums (rowsAt w5.heap.size [[min (ia : Int) (ib : Int), max (ia : Int) (ib : Int)], [(ia : Int)], [min (iy : Int) (iz : Int), max (iy : Int) (iz : Int)], [(ib : Int)]]) by simp [rowNums], rowsAt_nums, List.append_assoc]; exact HAC.out, HJ.out, ⟨l ++ [102], rfl, HSN.out⟩, ⟨_, rfl, HEV3.out⟩, HBJ.out⟩
              case measure => simp [intOf]; omega
          · have HL : Hid ((round (!true) W y).map listT = [[min (ia : Int) (iz : Int), max (ia : Int) (iz : Int)], [(ia : Int)], [min (ia : Int) (iy : Int), max (ia : Int) (iy : Int)], [(ia : Int)]]) := by
              show _ = _
              have h := escort_lists (f := !true) (y := y) HGW.out (by omega) (by rw [HWL.out]; have := HKZ.out; have := HKY.out; omega) (by simp)
              rw [HA1.out, HY1.out, show (wk W (y + 1)).1 = (iz : Int) by rw [show y + 1 = z by have := HKY.out; have := HKZ.out; omega]; exact HZ1.out] at h
              exact h
            have HAC : Hid (rowNums acc ++ ([[min (ia : Int) (iz : Int), max (ia : Int) (iz : Int)], [(ia : Int)], [min (ia : Int) (iy : Int), max (ia : Int) (iy : Int)], [(ia : Int)]] ++ (tripsT (!true) W y).map listT) = T) := by show _ = _; rw [← HL.out]; exact HT2.out
            have HSN : Hid (l ++ [101] ++ signsT (!true) W y = SG) := by show _ = _; rw [← HSG2.out, List.append_assoc, show signR (!true) W y = 101 from if_neg (by simp)]; rfl
            have HMX := Lib.hid (show acc.length + 4 ≤ maxLen by unfold maxLen; omega)
            have HBY := Lib.hid (show (acc.length + 4) * 24 ≤ 140737488355328 by omega)
            have HBS := Lib.hid (show w1.heap.size ≤ ((lay w5 [[min (ia : Int) (iz : Int), max (ia : Int) (iz : Int)], [(ia : Int)], [min (ia : Int) (iy : Int), max (ia : Int) (iy : Int)], [(ia : Int)]]).alloc (.cells (rowVals (rowsAt w5.heap.size [[min (ia : Int) (iz : Int), max (ia : Int) (iz : Int)], [(ia : Int)], [min (ia : Int) (iy : Int), max (ia : Int) (iy : Int)], [(ia : Int)]])).toArray 22)).heap.size by rw [laid_size]; omega)
            have HLB := Lib.hid (lay_all [[min (ia : Int) (iz : Int), max (ia : Int) (iz : Int)], [(ia : Int)], [min (ia : Int) (iy : Int), max (ia : Int) (iy : Int)], [(ia : Int)]] w5 (.cells (rowVals (rowsAt w5.heap.size [[min (ia : Int) (iz : Int), max (ia : Int) (iz : Int)], [(ia : Int)], [min (ia : Int) (iy : Int), max (ia : Int) (iy : Int)], [(ia : Int)]])).toArray 22))
            have HHA := Lib.hid ((HH5.out.below (lay_all [[min (ia : Int) (iz : Int), max (ia : Int) (iz : Int)], [(ia : Int)], [min (ia : Int) (iy : Int), max (ia : Int) (iy : Int)], [(ia : Int)]] w5 (.cells (rowVals (rowsAt w5.heap.size [[min (ia : Int) (iz : Int), max (ia : Int) (iz : Int)], [(ia : Int)], [min (ia : Int) (iy : Int), max (ia : Int) (iy : Int)], [(ia : Int)]])).toArray 22))).1)
            have HLH := Lib.hid (lay_heads' [[min (ia : Int) (iz : Int), max (ia : Int) (iz : Int)], [(ia : Int)], [min (ia : Int) (iy : Int), max (ia : Int) (iy : Int)], [(ia : Int)]] w5 (by simp) (by show 4 ≤ maxLen; decide))
            cases ev
            all_goals
              go_wp2_with (first | (go_at_call 199; refine (prPair_any _ _ _).mono ?_; rintro e' w' ⟨rfl, rfl⟩) | (at_builtin; refine wpList_append_lies _ rfl (.tmp 86) (.tmp 97) 28 rfl w1.heap.size 22 i1 (.slice none 0 0) 1 24 Try.underlying28 RI.out RZ0.out RZ1.out RZ2.out rfl (by decide) (.slice E acc.length d) acc.length (rowVals acc) rfl HHA.out ⟨w5.heap.size + 4, 0, none⟩ 4 4 (rowVals (rowsAt w5.heap.size [[min (ia : Int) (iz : Int), max (ia : Int) (iz : Int)], [(ia : Int)], [min (ia : Int) (iy : Int), max (ia : Int) (iy : Int)], [(ia : Int)]])) rfl (rowsAt_vals _ _) (lay_news' [[min (ia : Int) (iz : Int), max (ia : Int) (iz : Int)], [(ia : Int)], [min (ia : Int) (iy : Int), max (ia : Int) (iy : Int)], [(ia : Int)]] w5) (rowVals_one' _) (by decide) HMX.out HBY.out HBS.out (w5.heap.size + 4 + 1) (laid_size [[min (ia : Int) (iz : Int), max (ia : Int) (iz : Int)], [(ia : Int)], [min (ia : Int) (iy : Int), max (ia : Int) (iy : Int)], [(ia : Int)]] _ _) ?_; intro g3 c3 w3 hown3 hg3 hat3 hlt3))
              have hat3' : (Value.slice E acc.length d).ownBlock = some g3 ∨ g3 = ((lay w5 [[min (ia : Int) (iz : Int), max (ia : Int) (iz : Int)], [(ia : Int)], [min (ia : Int) (iy : Int), max (ia : Int) (iy : Int)], [(ia : Int)]]).alloc (.cells (rowVals (rowsAt w5.heap.size [[min (ia : Int) (iz : Int), max (ia : Int) (iz : Int)], [(ia : Int)], [min (ia : Int) (iy : Int), max (ia : Int) (iy : Int)], [(ia : Int)]])).toArray 22)).heap.size := by rw [laid_size]; exact hat3
              have HJ := Lib.hid (Heads.join HH5.out hz5 HLB.out HLH.out (by rw [rowsAt_len]; exact hown3) hg3 hat3')
              have HBJ := Lib.hid ((below_then HB5.out HLB.out hz5).grown hg3 HBS.out (fun kk e => (HHA.out.lt kk e).1))
              clear hown3 hg3 hat3 hat3' hlt3
              have HLR : Hid ((acc ++ rowsAt w5.heap.size [[min (ia : Int) (iz : Int), max (ia : Int) (iz : Int)], [(ia : Int)], [min (ia : Int) (iy : Int), max (ia : Int) (iy : Int)], [(ia : Int)]]).length = acc.length + 4) := by show _ = _; rw [List.length_append, rowsAt_len]; rfl
              go_wp2
              go_roundw
              case rel => exact ⟨y, some ⟨g3, 0, none⟩, c3, acc ++ rowsAt w5.heap.size [[min (ia : Int) (iz : Int), max (ia : Int) (iz : Int)], [(ia : Int)], [min (ia : Int) (iy : Int), max (ia : Int) (iy : Int)], [(ia : Int)]], by omega, by omega, by go_num, by rw [HLR.out], by rw [show rowNums (acc ++ rowsAt w5.heap.size [[min (ia : Int) (iz : Int), max (ia : Int) (iz : Int)], [(ia : Int)], [min (ia : Int) (iy : Int), max (ia : Int) (iy : Int)], [(ia : Int)]]) = rowNums acc ++ rowNums (rowsAt w5.heap.size [[min (ia : Int) (iz : Int), max (ia : Int) (iz : Int)], [(ia : Int)], [min (ia : Int) (iy : Int), max (ia : Int) (iy : Int)], [(ia : Int)]]) by simp [rowNums], rowsAt_nums, List.append_assoc]; exact HAC.out, HJ.out, ⟨l ++ [101], rfl, HSN.out⟩, ⟨_, rfl, HEV3.out⟩, HBJ.out⟩
              case measure => simp [intOf]; omega
        · have hl1 : ¬ 2 * xb < xa + xy := by omega
          have hl2 : decide (2 * xb < xa + xy) = false := by simp; omega
          have HG := Lib.hid hg
          clear hg
          by_cases h0 : gainOf W y = 0
          · have HEV3 : Hid ((true || evenT W y) = EV) := by show _ = _; rw [← HEV2.out, h0]; simp
            have he1 : ((2 * xb : Int) == xa + xy) = true := by simp; omega
            clear hgn h0
            have HL : Hid ((round (!e) W y).map listT = [[min (ia : Int) (iz : Int), max (ia : Int) (iz : Int)], [(ia : Int)], [min (ia : Int) (iy : Int), max (ia : Int) (iy : Int)], [(ia : Int)]]) := by
              show _ = _
              have h := escort_lists (f := !e) (y := y) HGW.out (by omega) (by rw [HWL.out]; have := HKZ.out; have := HKY.out; omega) (by rw [show decide (0 < gainOf W y) = false from decide_eq_false HG.out, Bool.and_false])
              rw [HA1.out, HY1.out, show (wk W (y + 1)).1 = (iz : Int) by rw [show y + 1 = z by have := HKY.out; have := HKZ.out; omega]; exact HZ1.out] at h
              exact h
            have HAC : Hid (rowNums acc ++ ([[min (ia : Int) (iz : Int), max (ia : Int) (iz : Int)], [(ia : Int)], [min (ia : Int) (iy : Int), max (ia : Int) (iy : Int)], [(ia : Int)]] ++ (tripsT (!e) W y).map listT) = T) := by show _ = _; rw [← HL.out]; exact HT2.out
            have HSN : Hid (l ++ [101] ++ signsT (!e) W y = SG) := by show _ = _; rw [← HSG2.out, List.append_assoc, show signR (!e) W y = 101 from (by rw [signR, show decide (0 < gainOf W y) = false from decide_eq_false HG.out, Bool.and_false]; rfl)]; rfl
            have HMX := Lib.hid (show acc.length + 4 ≤ maxLen by unfold maxLen; omega)
            have HBY := Lib.hid (show (acc.length + 4) * 24 ≤ 140737488355328 by omega)
            have HBS := Lib.hid (show w1.heap.size ≤ ((lay w5 [[min (ia : Int) (iz : Int), max (ia : Int) (iz : Int)], [(ia : Int)], [min (ia : Int) (iy : Int), max (ia : Int) (iy : Int)], [(ia : Int)]]).alloc (.cells (rowVals (rowsAt w5.heap.size [[min (ia : Int) (iz : Int), max (ia : Int) (iz : Int)], [(ia : Int)], [min (ia : Int) (iy : Int), max (ia : Int) (iy : Int)], [(ia : Int)]])).toArray 22)).heap.size by rw [laid_size]; omega)
            have HLB := Lib.hid (lay_all [[min (ia : Int) (iz : Int), max (ia : Int) (iz : Int)], [(ia : Int)], [min (ia : Int) (iy : Int), max (ia : Int) (iy : Int)], [(ia : Int)]] w5 (.cells (rowVals (rowsAt w5.heap.size [[min (ia : Int) (iz : Int), max (ia : Int) (iz : Int)], [(ia : Int)], [min (ia : Int) (iy : Int), max (ia : Int) (iy : Int)], [(ia : Int)]])).toArray 22))
            have HHA := Lib.hid ((HH5.out.below (lay_all [[min (ia : Int) (iz : Int), max (ia : Int) (iz : Int)], [(ia : Int)], [min (ia : Int) (iy : Int), max (ia : Int) (iy : Int)], [(ia : Int)]] w5 (.cells (rowVals (rowsAt w5.heap.size [[min (ia : Int) (iz : Int), max (ia : Int) (iz : Int)], [(ia : Int)], [min (ia : Int) (iy : Int), max (ia : Int) (iy : Int)], [(ia : Int)]])).toArray 22))).1)
            have HLH := Lib.hid (lay_heads' [[min (ia : Int) (iz : Int), max (ia : Int) (iz : Int)], [(ia : Int)], [min (ia : Int) (iy : Int), max (ia : Int) (iy : Int)], [(ia : Int)]] w5 (by simp) (by show 4 ≤ maxLen; decide))
            cases ev
            all_goals
              go_wp2_with (first | (go_at_call 199; refine (prPair_any _ _ _).mono ?_; rintro e' w' ⟨rfl, rfl⟩) | (at_builtin; refine wpList_append_lies _ rfl (.tmp 86) (.tmp 97) 28 rfl w1.heap.size 22 i1 (.slice none 0 0) 1 24 Try.underlying28 RI.out RZ0.out RZ1.out RZ2.out rfl (by decide) (.slice E acc.length d) acc.length (rowVals acc) rfl HHA.out ⟨w5.heap.size + 4, 0, none⟩ 4 4 (rowVals (rowsAt w5.heap.size [[min (ia : Int) (iz : Int), max (ia : Int) (iz : Int)], [(ia : Int)], [min (ia : Int) (iy : Int), max (ia : Int) (iy : Int)], [(ia : Int)]])) rfl (rowsAt_vals _ _) (lay_news' [[min (ia : Int) (iz : Int), max (ia : Int) (iz : Int)], [(ia : Int)], [min (ia : Int) (iy : Int), max (ia : Int) (iy : Int)], [(ia : Int)]] w5) (rowVals_one' _) (by decide) HMX.out HBY.out HBS.out (w5.heap.size + 4 + 1) (laid_size [[min (ia : Int) (iz : Int), max (ia : Int) (iz : Int)], [(ia : Int)], [min (ia : Int) (iy : Int), max (ia : Int) (iy : Int)], [(ia : Int)]] _ _) ?_; intro g3 c3 w3 hown3 hg3 hat3 hlt3))
              have hat3' : (Value.slice E acc.length d).ownBlock = some g3 ∨ g3 = ((lay w5 [[min (ia : Int) (iz : Int), max (ia : Int) (iz : Int)], [(ia : Int)], [min (ia : Int) (iy : Int), max (ia : Int) (iy : Int)], [(ia : Int)]]).alloc (.cells (rowVals (rowsAt w5.heap.size [[min (ia : Int) (iz : Int), max (ia : Int) (iz : Int)], [(ia : Int)], [min (ia : Int) (iy : Int), max (ia : Int) (iy : Int)], [(ia : Int)]])).toArray 22)).heap.size := by rw [laid_size]; exact hat3
              have HJ := Lib.hid (Heads.join HH5.out hz5 HLB.out HLH.out (by rw [rowsAt_len]; exact hown3) hg3 hat3')
              have HBJ := Lib.hid ((below_then HB5.out HLB.out hz5).grown hg3 HBS.out (fun kk e => (HHA.out.lt kk e).1))
              clear hown3 hg3 hat3 hat3' hlt3
              have HLR : Hid ((acc ++ rowsAt w5.heap.size [[min (ia : Int) (iz : Int), max (ia : Int) (iz : Int)], [(ia : Int)], [min (ia : Int) (iy : Int), max (ia : Int) (iy : Int)], [(ia : Int)]]).length = acc.length + 4) := by show _ = _; rw [List.length_append, rowsAt_len]; rfl
              go_wp2
              go_roundw
              case rel => exact ⟨y, some ⟨g3, 0, none⟩, c3, acc ++ rowsAt w5.heap.size [[min (ia : Int) (iz : Int), max (ia : Int) (iz : Int)], [(ia : Int)], [min (ia : Int) (iy : Int), max (ia : Int) (iy : Int)], [(ia : Int)]], by omega, by omega, by go_num, by rw [HLR.out], by rw [show rowNums (acc ++ rowsAt w5.heap.size [[min (ia : Int) (iz : Int), max (ia : Int) (iz : Int)], [(ia : Int)], [min (ia : Int) (iy : Int), max (ia : Int) (iy : Int)], [(ia : Int)]]) = rowNums acc ++ rowNums (rowsAt w5.heap.size [[min (ia : Int) (iz : Int), max (ia : Int) (iz : Int)], [(ia : Int)], [min (ia : Int) (iy : Int), max (ia : Int) (iy : Int)], [(ia : Int)]]) by simp [rowNums], rowsAt_nums, List.append_assoc]; exact HAC.out, HJ.out, ⟨l ++ [101], rfl, HSN.out⟩, ⟨_, rfl, HEV3.out⟩, HBJ.out⟩
              case measure => simp [intOf]; omega
          · have HEV3 : Hid ((ev || evenT W y) = EV) := by show _ = _; rw [← HEV2.out, show decide (gainOf W y = 0) = false by simp [h0], Bool.false_or]
            have he1 : ((2 * xb : Int) == xa + xy) = false := by simp; omega
            clear hgn h0
            have HL : Hid ((round (!e) W y).map listT = [[min (ia : Int) (iz : Int), max (ia : Int) (iz : Int)], [(ia : Int)], [min (ia : Int) (iy : Int), max (ia : Int) (iy : Int)], [(ia : Int)]]) := by
              show _ = _
              have h := escort_lists (f := !e) (y := y) HGW.out (by omega) (by rw [HWL.out]; have := HKZ.out; have := HKY.out; omega) (by rw [show decide (0 < gainOf W y) = false from decide_eq_false HG.out, Bool.and_false])
              rw [HA1.out, HY1.out, show (wk W (y + 1)).1 = (iz : Int) by rw [show y + 1 = z by have := HKY.out; have := HKZ.out; omega]; exact HZ1.out] at h
              exact h
            have HAC : Hid (rowNums acc ++ ([[min (ia : Int) (iz : Int), max (ia : Int) (iz : Int)], [(ia : Int)], [min (ia : Int) (iy : Int), max (ia : Int) (iy : Int)], [(ia : Int)]] ++ (tripsT (!e) W y).map listT) = T) := by show _ = _; rw [← HL.out]; exact HT2.out
            have HSN : Hid (l ++ [101] ++ signsT (!e) W y = SG) := by show _ = _; rw [← HSG2.out, List.append_assoc, show signR (!e) W y = 101 from (by rw [signR, show decide (0 < gainOf W y) = false from decide_eq_false HG.out, Bool.and_false]; rfl)]; rfl
            have HMX := Lib.hid (show acc.length + 4 ≤ maxLen by unfold maxLen; omega)
            have HBY := Lib.hid (show (acc.length + 4) * 24 ≤ 140737488355328 by omega)
            have HBS := Lib.hid (show w1.heap.size ≤ ((lay w5 [[min (ia : Int) (iz : Int), max (ia : Int) (iz : Int)], [(ia : Int)], [min (ia : Int) (iy : Int), max (ia : Int) (iy : Int)], [(ia : Int)]]).alloc (.cells (rowVals (rowsAt w5.heap.size [[min (ia : Int) (iz : Int), max (ia : Int) (iz : Int)], [(ia : Int)], [min (ia : Int) (iy : Int), max (ia : Int) (iy : Int)], [(ia : Int)]])).toArray 22)).heap.size by rw [laid_size]; omega)
            have HLB := Lib.hid (lay_all [[min (ia : Int) (iz : Int), max (ia : Int) (iz : Int)], [(ia : Int)], [min (ia : Int) (iy : Int), max (ia : Int) (iy : Int)], [(ia : Int)]] w5 (.cells (rowVals (rowsAt w5.heap.size [[min (ia : Int) (iz : Int), max (ia : Int) (iz : Int)], [(ia : Int)], [min (ia : Int) (iy : Int), max (ia : Int) (iy : Int)], [(ia : Int)]])).toArray 22))
            have HHA := Lib.hid ((HH5.out.below (lay_all [[min (ia : Int) (iz : Int), max (ia : Int) (iz : Int)], [(ia : Int)], [min (ia : Int) (iy : Int), max (ia : Int) (iy : Int)], [(ia : Int)]] w5 (.cells (rowVals (rowsAt w5.heap.size [[min (ia : Int) (iz : Int), max (ia : Int) (iz : Int)], [(ia : Int)], [min (ia : Int) (iy : Int), max (ia : Int) (iy : Int)], [(ia : Int)]])).toArray 22))).1)
            have HLH := Lib.hid (lay_heads' [[min (ia : Int) (iz : Int), max (ia : Int) (iz : Int)], [(ia : Int)], [min (ia : Int) (iy : Int), max (ia : Int) (iy : Int)], [(ia : Int)]] w5 (by simp) (by show 4 ≤ maxLen; decide))
            cases ev
            all_goals
              go_wp2_with (first | (go_at_call 199; refine (prPair_any _ _ _).mono ?_; rintro e' w' ⟨rfl, rfl⟩) | (at_builtin; refine wpList_append_lies _ rfl (.tmp 86) (.tmp 97) 28 rfl w1.heap.size 22 i1 (.slice none 0 0) 1 24 Try.underlying28 RI.out RZ0.out RZ1.out RZ2.out rfl (by decide) (.slice E acc.length d) acc.length (rowVals acc) rfl HHA.out ⟨w5.heap.size + 4, 0, none⟩ 4 4 (rowVals (rowsAt w5.heap.size [[min (ia : Int) (iz : Int), max (ia : Int) (iz : Int)], [(ia : Int)], [min (ia : Int) (iy : Int), max (ia : Int) (iy : Int)], [(ia : Int)]])) rfl (rowsAt_vals _ _) (lay_news' [[min (ia : Int) (iz : Int), max (ia : Int) (iz : Int)], [(ia : Int)], [min (ia : Int) (iy : Int), max (ia : Int) (iy : Int)], [(ia : Int)]] w5) (rowVals_one' _) (by decide) HMX.out HBY.out HBS.out (w5.heap.size + 4 + 1) (laid_size [[min (ia : Int) (iz : Int), max (ia : Int) (iz : Int)], [(ia : Int)], [min (ia : Int) (iy : Int), max (ia : Int) (iy : Int)], [(ia : Int)]] _ _) ?_; intro g3 c3 w3 hown3 hg3 hat3 hlt3))
              have hat3' : (Value.slice E acc.length d).ownBlock = some g3 ∨ g3 = ((lay w5 [[min (ia : Int) (iz : Int), max (ia : Int) (iz : Int)], [(ia : Int)], [min (ia : Int) (iy : Int), max (ia : Int) (iy : Int)], [(ia : Int)]]).alloc (.cells (rowVals (rowsAt w5.heap.size [[min (ia : Int) (iz : Int), max (ia : Int) (iz : Int)], [(ia : Int)], [min (ia : Int) (iy : Int), max (ia : Int) (iy : Int)], [(ia : Int)]])).toArray 22)).heap.size := by rw [laid_size]; exact hat3
              have HJ := Lib.hid (Heads.join HH5.out hz5 HLB.out HLH.out (by rw [rowsAt_len]; exact hown3) hg3 hat3')
              have HBJ := Lib.hid ((below_then HB5.out HLB.out hz5).grown hg3 HBS.out (fun kk e => (HHA.out.lt kk e).1))
              clear hown3 hg3 hat3 hat3' hlt3
              have HLR : Hid ((acc ++ rowsAt w5.heap.size [[min (ia : Int) (iz : Int), max (ia : Int) (iz : Int)], [(ia : Int)], [min (ia : Int) (iy : Int), max (ia : Int) (iy : Int)], [(ia : Int)]]).length = acc.length + 4) := by show _ = _; rw [List.length_append, rowsAt_len]; rfl
              go_wp2
              go_roundw
              case rel => exact ⟨y, some ⟨g3, 0, none⟩, c3, acc ++ rowsAt w5.heap.size [[min (ia : Int) (iz : Int), max (ia : Int) (iz : Int)], [(ia : Int)], [min (ia : Int) (iy : Int), max (ia : Int) (iy : Int)], [(ia : Int)]], by omega, by omega, by go_num, by rw [HLR.out], by rw [show rowNums (acc ++ rowsAt w5.heap.size [[min (ia : Int) (iz : Int), max (ia : Int) (iz : Int)], [(ia : Int)], [min (ia : Int) (iy : Int), max (ia : Int) (iy : Int)], [(ia : Int)]]) = rowNums acc ++ rowNums (rowsAt w5.heap.size [[min (ia : Int) (iz : Int), max (ia : Int) (iz : Int)], [(ia : Int)], [min (ia : Int) (iy : Int), max (ia : Int) (iy : Int)], [(ia : Int)]]) by simp [rowNums], rowsAt_nums, List.append_assoc]; exact HAC.out, HJ.out, ⟨l ++ [101], rfl, HSN.out⟩, ⟨_, rfl, HEV3.out⟩, HBJ.out⟩
              case measure => simp [intOf]; omega
      · have hk3 : ¬ (3 : Int) < (k : Int) := by omega
        have hgt : decide ((3 : Int) < (k : Int)) = false := by simp; omega
        obtain ⟨iy, hy1, hy2, hy3, hy4, hy5, hy6, hy7⟩ := HID.out 0 (by omega)
        have hls : listT (wk W 0, wk W 1) = [min (ia : Int) (ib : Int), max (ia : Int) (ib : Int)] := by
          rw [list_pair (HGW.out.two 0 1 (by omega) (by rw [HWL.out]; omega)).2, HA1.out, HB1'.out]
        have HLS := Lib.hid hls
        have HTT := Lib.hid hT
        have HSS := Lib.hid hSG
        have HEE := Lib.hid hEV
        clear hT hSG hEV hh hb hls hy1 hy2 hy3 hy4 hy5 hy6 hy7
        have HMX := Lib.hid (show acc.length + 1 ≤ maxLen by unfold maxLen; omega)
        have HBY := Lib.hid (show (acc.length + 1) * 24 ≤ 140737488355328 by omega)
        have HBS := Lib.hid (show w1.heap.size ≤ ((lay wr [[min (ia : Int) (ib : Int), max (ia : Int) (ib : Int)]]).alloc (.cells (rowVals (rowsAt wr.heap.size [[min (ia : Int) (ib : Int), max (ia : Int) (ib : Int)]])).toArray 22)).heap.size by rw [laid_size]; omega)
        have HLB := Lib.hid (lay_all [[min (ia : Int) (ib : Int), max (ia : Int) (ib : Int)]] wr (.cells (rowVals (rowsAt wr.heap.size [[min (ia : Int) (ib : Int), max (ia : Int) (ib : Int)]])).toArray 22))
        have HHA := Lib.hid ((HH.out.below (lay_all [[min (ia : Int) (ib : Int), max (ia : Int) (ib : Int)]] wr (.cells (rowVals (rowsAt wr.heap.size [[min (ia : Int) (ib : Int), max (ia : Int) (ib : Int)]])).toArray 22))).1)
        have HLH := Lib.hid (lay_heads' [[min (ia : Int) (ib : Int), max (ia : Int) (ib : Int)]] wr (by simp) (by show 1 ≤ maxLen; decide))
        by_cases hk2' : k = 2
        · subst hk2'
          have HAC : Hid (rowNums acc ++ [[min (ia : Int) (ib : Int), max (ia : Int) (ib : Int)]] = T) := by show _ = _; rw [← HTT.out, show (tripsT (!e) W 2).map listT = [listT (wk W 0, wk W 1)] from rfl, HLS.out]
          have HSN : Hid (l = SG) := by show _ = _; rw [← HSS.out, show signsT (!e) W 2 = [] from rfl, List.append_nil]
          have HEN : Hid (ev = EV) := by show _ = _; rw [← HEE.out, show evenT W 2 = false from rfl, Bool.or_false]
          clear HTT HSS HEE
          go_wp2_with (first | (go_at_call 199; refine (prPair_any _ _ _).mono ?_; rintro e' w' ⟨rfl, rfl⟩) | (at_builtin; refine wpList_append_lies _ rfl (.tmp 103) (.tmp 107) 28 rfl w1.heap.size 22 i1 (.slice none 0 0) 1 24 Try.underlying28 RI.out RZ0.out RZ1.out RZ2.out rfl (by decide) (.slice E acc.length d) acc.length (rowVals acc) rfl HHA.out ⟨wr.heap.size + 1, 0, none⟩ 1 1 (rowVals (rowsAt wr.heap.size [[min (ia : Int) (ib : Int), max (ia : Int) (ib : Int)]])) rfl (rowsAt_vals _ _) (lay_news' [[min (ia : Int) (ib : Int), max (ia : Int) (ib : Int)]] wr) (rowVals_one' _) (by decide) HMX.out HBY.out HBS.out (wr.heap.size + 1 + 1) (laid_size [[min (ia : Int) (ib : Int), max (ia : Int) (ib : Int)]] _ _) ?_; intro g3 c3 w3 hown3 hg3 hat3 hlt3))
          have hat3' : (Value.slice E acc.length d).ownBlock = some g3 ∨ g3 = ((lay wr [[min (ia : Int) (ib : Int), max (ia : Int) (ib : Int)]]).alloc (.cells (rowVals (rowsAt wr.heap.size [[min (ia : Int) (ib : Int), max (ia : Int) (ib : Int)]])).toArray 22)).heap.size := by rw [laid_size]; exact hat3
          have HJ := Lib.hid (Heads.join HH.out hwz HLB.out HLH.out (by rw [rowsAt_len]; exact hown3) hg3 hat3')
          have HBJ := Lib.hid ((below_then HB.out HLB.out hwz).grown hg3 HBS.out (fun kk e => (HHA.out.lt kk e).1))
          clear hown3 hg3 hat3 hat3' hlt3
          have HLR : Hid ((acc ++ rowsAt wr.heap.size [[min (ia : Int) (ib : Int), max (ia : Int) (ib : Int)]]).length = acc.length + 1) := by show _ = _; rw [List.length_append, rowsAt_len]; rfl
          go_wp2
          refine bodyPost_ret (v := .tuple #[.slice (some ⟨g3, 0, none⟩) (acc.length + 1) c3, .string ⟨l.toArray⟩, .bool ev]) (by simp [results, Try.results182, go_sem]) rfl ?_
          exact ⟨_, _, acc ++ rowsAt wr.heap.size [[min (ia : Int) (ib : Int), max (ia : Int) (ib : Int)]], by rw [HLR.out, HSN.out, HEN.out], by rw [show rowNums (acc ++ rowsAt wr.heap.size [[min (ia : Int) (ib : Int), max (ia : Int) (ib : Int)]]) = rowNums acc ++ rowNums (rowsAt wr.heap.size [[min (ia : Int) (ib : Int), max (ia : Int) (ib : Int)]]) by simp [rowNums], rowsAt_nums]; exact HAC.out, HJ.out.raise hbs, below_then HB1.out HBJ.out hbs⟩
        · obtain rfl : k = 3 := by omega
          obtain ⟨ic, hc1, hc2, hc3, hc4, hc5, hc6, hc7⟩ := HID.out 2 (by omega)
          have hls2 : listT (wk W 0, wk W 2) = [min (ia : Int) (ic : Int), max (ia : Int) (ic : Int)] := by
            rw [list_pair (HGW.out.two 0 2 (by omega) (by rw [HWL.out]; omega)).2, HA1.out, hc1]
          have HAC : Hid (rowNums acc ++ [[min (ia : Int) (ib : Int), max (ia : Int) (ib : Int)]] ++ [[(ia : Int)], [min (ia : Int) (ic : Int), max (ia : Int) (ic : Int)]] = T) := by
            show _ = _
            rw [← HTT.out, show (tripsT (!e) W 3).map listT = [listT (wk W 0, wk W 1), listT (wk W 0, wk W 0), listT (wk W 0, wk W 2)] from rfl, HLS.out, list_alone, hls2, HA1.out, List.append_assoc]
            rfl
          have HSN : Hid (l = SG) := by show _ = _; rw [← HSS.out, show signsT (!e) W 3 = [] from rfl, List.append_nil]
          have HEN : Hid (ev = EV) := by show _ = _; rw [← HEE.out, show evenT W 3 = false from rfl, Bool.or_false]
          have HC6 := Lib.hid hc6
          have h2n : (2 : Int) < (n : Int) := by omega
          clear HTT HSS HEE hls2 hc1 hc2 hc3 hc4 hc5 hc6 hc7 hk2'
          go_upto_region 19 with (first | (go_at_call 199; refine (prPair_any _ _ _).mono ?_; rintro e' w' ⟨rfl, rfl⟩) | (at_builtin; refine wpList_append_lies _ rfl (.tmp 103) (.tmp 107) 28 rfl w1.heap.size 22 i1 (.slice none 0 0) 1 24 Try.underlying28 RI.out RZ0.out RZ1.out RZ2.out rfl (by decide) (.slice E acc.length d) acc.length (rowVals acc) rfl HHA.out ⟨wr.heap.size + 1, 0, none⟩ 1 1 (rowVals (rowsAt wr.heap.size [[min (ia : Int) (ib : Int), max (ia : Int) (ib : Int)]])) rfl (rowsAt_vals _ _) (lay_news' [[min (ia : Int) (ib : Int), max (ia : Int) (ib : Int)]] wr) (rowVals_one' _) (by decide) HMX.out HBY.out HBS.out (wr.heap.size + 1 + 1) (laid_size [[min (ia : Int) (ib : Int), max (ia : Int) (ib : Int)]] _ _) ?_; intro g3 c3 w3 hown3 hg3 hat3 hlt3))
          have hat3' : (Value.slice E acc.length d).ownBlock = some g3 ∨ g3 = ((lay wr [[min (ia : Int) (ib : Int), max (ia : Int) (ib : Int)]]).alloc (.cells (rowVals (rowsAt wr.heap.size [[min (ia : Int) (ib : Int), max (ia : Int) (ib : Int)]])).toArray 22)).heap.size := by rw [laid_size]; exact hat3
          have HJ := Lib.hid (Heads.join HH.out hwz HLB.out HLH.out (by rw [rowsAt_len]; exact hown3) hg3 hat3')
          have HBJ := Lib.hid ((below_then HB.out HLB.out hwz).grown hg3 HBS.out (fun kk e => (HHA.out.lt kk e).1))
          clear hown3 hg3 hat3 hat3' hlt3
          have HLR : Hid ((acc ++ rowsAt wr.heap.size [[min (ia : Int) (ib : Int), max (ia : Int) (ib : Int)]]).length = acc.length + 1) := by show _ = _; rw [List.length_append, rowsAt_len]; rfl
          have hz3 : w1.heap.size ≤ w3.heap.size := HBJ.out.size
          have HMX2 := Lib.hid (show acc.length + 1 + 2 ≤ maxLen by unfold maxLen; omega)
          have HBY2 := Lib.hid (show (acc.length + 1 + 2) * 24 ≤ 140737488355328 by omega)
          have HBS2 := Lib.hid (show w1.heap.size ≤ ((lay w3 [[(ia : Int)], [min (ia : Int) (ic : Int), max (ia : Int) (ic : Int)]]).alloc (.cells (rowVals (rowsAt w3.heap.size [[(ia : Int)], [min (ia : Int) (ic : Int), max (ia : Int) (ic : Int)]])).toArray 22)).heap.size by rw [laid_size]; omega)
          have HLB2 := Lib.hid (lay_all [[(ia : Int)], [min (ia : Int) (ic : Int), max (ia : Int) (ic : Int)]] w3 (.cells (rowVals (rowsAt w3.heap.size [[(ia : Int)], [min (ia : Int) (ic : Int), max (ia : Int) (ic : Int)]])).toArray 22))
          have hha2 := (HJ.out.below (lay_all [[(ia : Int)], [min (ia : Int) (ic : Int), max (ia : Int) (ic : Int)]] w3 (.cells (rowVals (rowsAt w3.heap.size [[(ia : Int)], [min (ia : Int) (ic : Int), max (ia : Int) (ic : Int)]])).toArray 22))).1
          rw [HLR.out] at hha2
          have HHA2 := Lib.hid hha2
          have HLH2 := Lib.hid (lay_heads' [[(ia : Int)], [min (ia : Int) (ic : Int), max (ia : Int) (ic : Int)]] w3 (by simp) (by show 2 ≤ maxLen; decide))
          have hoc := (HBJ.out.cell (p := ⟨g, 2, none⟩) hgl).trans HC6.out
          have hol := (w3.cell?_alloc_lt (.cells #[.int .i64 ia] 3) ⟨g, 2, none⟩ (Nat.lt_of_lt_of_le hgl hz3)).trans hoc
          clear hha2 hoc
          go_wp2_with (first | (go_at_call 199; refine (prPair_any _ _ _).mono ?_; rintro e' w' ⟨rfl, rfl⟩) | (at_builtin; refine wpList_append_lies _ rfl (.tmp 111) (.tmp 119) 28 rfl w1.heap.size 22 i1 (.slice none 0 0) 1 24 Try.underlying28 RI.out RZ0.out RZ1.out RZ2.out rfl (by decide) (.slice (some ⟨g3, 0, none⟩) (acc.length + 1) c3) (acc.length + 1) (rowVals (acc ++ rowsAt wr.heap.size [[min (ia : Int) (ib : Int), max (ia : Int) (ib : Int)]])) rfl HHA2.out ⟨w3.heap.size + 2, 0, none⟩ 2 2 (rowVals (rowsAt w3.heap.size [[(ia : Int)], [min (ia : Int) (ic : Int), max (ia : Int) (ic : Int)]])) rfl (rowsAt_vals _ _) (lay_news' [[(ia : Int)], [min (ia : Int) (ic : Int), max (ia : Int) (ic : Int)]] w3) (rowVals_one' _) (by decide) HMX2.out HBY2.out HBS2.out (w3.heap.size + 2 + 1) (laid_size [[(ia : Int)], [min (ia : Int) (ic : Int), max (ia : Int) (ic : Int)]] _ _) ?_; intro g4 c4 w4 hown4 hg4 hat4 hlt4))
          have hat4' : (Value.slice (some ⟨g3, 0, none⟩) (acc ++ rowsAt wr.heap.size [[min (ia : Int) (ib : Int), max (ia : Int) (ib : Int)]]).length c3).ownBlock = some g4 ∨ g4 = ((lay w3 [[(ia : Int)], [min (ia : Int) (ic : Int), max (ia : Int) (ic : Int)]]).alloc (.cells (rowVals (rowsAt w3.heap.size [[(ia : Int)], [min (ia : Int) (ic : Int), max (ia : Int) (ic : Int)]])).toArray 22)).heap.size := by rw [laid_size]; exact hat4
          have HJ4 := Lib.hid (Heads.join HJ.out hz3 HLB2.out HLH2.out (by rw [rowsAt_len, HLR.out]; exact hown4) hg4 hat4')
          have HBJ4 := Lib.hid ((below_then HBJ.out HLB2.out hz3).grown hg4 HBS2.out (fun kk e => (HHA2.out.lt kk e).1))
          have HLR4 : Hid ((acc ++ rowsAt wr.heap.size [[min (ia : Int) (ib : Int), max (ia : Int) (ib : Int)]] ++ rowsAt w3.heap.size [[(ia : Int)], [min (ia : Int) (ic : Int), max (ia : Int) (ic : Int)]]).length = acc.length + 1 + 2) := by show _ = _; rw [List.length_append, HLR.out, rowsAt_len]; rfl
          clear hown4 hg4 hat4 hat4' hlt4
          go_wp2
          refine bodyPost_ret (v := .tuple #[.slice (some ⟨g4, 0, none⟩) (acc.length + 1 + 2) c4, .string ⟨l.toArray⟩, .bool ev]) (by simp [results, Try.results182, go_sem]) rfl ?_
          exact ⟨_, _, acc ++ rowsAt wr.heap.size [[min (ia : Int) (ib : Int), max (ia : Int) (ib : Int)]] ++ rowsAt w3.heap.size [[(ia : Int)], [min (ia : Int) (ic : Int), max (ia : Int) (ic : Int)]], by rw [HLR4.out, HSN.out, HEN.out], by rw [show rowNums (acc ++ rowsAt wr.heap.size [[min (ia : Int) (ib : Int), max (ia : Int) (ib : Int)]] ++ rowsAt w3.heap.size [[(ia : Int)], [min (ia : Int) (ic : Int), max (ia : Int) (ic : Int)]]) = rowNums acc ++ rowNums (rowsAt wr.heap.size [[min (ia : Int) (ib : Int), max (ia : Int) (ib : Int)]]) ++ rowNums (rowsAt w3.heap.size [[(ia : Int)], [min (ia : Int) (ic : Int), max (ia : Int) (ic : Int)]]) by simp [rowNums], rowsAt_nums, rowsAt_nums]; exact HAC.out, HJ4.out.raise hbs, below_then HB1.out HBJ4.out hbs⟩
end Go.Proofs.Ytkocompjjogciaa

namespace Go.Proofs.Ytkocompjjogciaa
open Go.RowKit

/-- The times of trips together. -/
def sumSlow (xs : List Int) (ls : List (List Int)) : Int := (ls.map (slowOf xs)).sum
theorem sumSlow_next {xs : List Int} {ls : List (List Int)} {k : Nat} (hk : k < ls.length) : sumSlow xs (ls.take (k + 1)) = sumSlow xs (ls.take k) + slowOf xs ls[k] := by
  rw [sumSlow, sumSlow, List.take_succ_eq_append_getElem hk, List.map_append, List.sum_append]
  simp
def AllTrips (n : Nat) (ls : List (List Int)) : Prop := ∀ k (h : k < ls.length), StepsTo ls[k] (n - 1) ls[k].length
theorem slowOf_bdG {xs : List Int} (h : ∀ y ∈ xs, 1 ≤ y ∧ y ≤ 1000) (l : List Int) : 0 ≤ slowOf xs l ∧ slowOf xs l ≤ 1000 := by
  constructor
  · exact ((slowOf_le xs l _).1 (Int.le_refl _)).1
  · rw [slowOf_le]
    refine ⟨by omega, fun x _ => ?_⟩
    by_cases hx : x.toNat < xs.length
    · have h2 := h _ (List.getElem_mem hx)
      simp [hx]
      omega
    · simp [hx]
theorem sumSlow_bdG {xs : List Int} (h : ∀ y ∈ xs, 1 ≤ y ∧ y ≤ 1000) (ls : List (List Int)) : 0 ≤ sumSlow xs ls ∧ sumSlow xs ls ≤ 1000 * ls.length := by
  induction ls with
  | nil => simp [sumSlow]
  | cons l ls ih =>
    have := slowOf_bdG h l
    simp only [sumSlow, List.map_cons, List.sum_cons, List.length_cons] at ih ⊢
    omega

set_option maxHeartbeats 800000 in
theorem paSumG_any (A D : Option Addr) (n c q z : Nat) (xs : List Int) (rs : List RowV) (s : Int) (w : World) (hA : Holds w A (nums xs)) (hD : Grid w D rs) (hx : xs.length = n) (hz : rs.length = q) (hn : n ≤ 9223372036854775807) (hq : q ≤ 40) (hp : ∀ y ∈ xs, 1 ≤ y ∧ y ≤ 1000) (ht : AllTrips n (rowNums rs)) :
    Calls Try.prog 200 #[.agg #[.slice A n c, .int .i64 s], .slice D q z] w fun e w' => e = .returned (.int .i64 (sumSlow xs (rowNums rs))) ∧ Below w.heap.size w w' := by
  have HX := Lib.hid hx
  have HZ := Lib.hid hz
  have HP := Lib.hid hp
  have HT := Lib.hid ht
  have HLS := Lib.hid (rowNums_len rs)
  have h0 := Whole.fresh w 37 #[.slice A n c, .int .i64 s]
  have hbw := below1 w (.cells #[.slice A n c, .int .i64 s] 37)
  have HBW := Lib.hid hbw
  have H0 := Lib.hid h0
  clear hx hz hp ht hbw h0
  go_enter Try.func200, Try.ntmps200
  go_wp2
  go_loopw [5, 10] (fun v i wr => ∃ k : Nat, k ≤ q ∧ i = .int .i64 k ∧ v = .int .i64 (sumSlow xs ((rowNums rs).take k)) ∧ Whole wr w.heap.size 37 #[.slice A n c, .int .i64 s] ∧ Below w.heap.size w wr) (fun _ i _ => q - (intOf i).toNat)
  case atStart => exact ⟨0, Nat.zero_le _, rfl, rfl, H0.out, HBW.out⟩
  case round =>
    obtain ⟨k, hk, rfl, rfl, h0, hb⟩ := hrel
    clear H0 HBW
    obtain ⟨c0, c1, -, -⟩ := h0.two
    by_cases hlt : k < q
    · have hkr : k < rs.length := by have := HZ.out; omega
      have hkl : k < (rowNums rs).length := by have := HLS.out; omega
      obtain ⟨b1, o1, rfl, hbl1, hc, hok⟩ := (hD.below hb).look hkr
      have hst := HT.out k hkl
      rw [rowNums_get hkr] at hst
      have hA1 := hA.below hb
      have hs0 := sumSlow_bdG HP.out ((rowNums rs).take k)
      have hs1 := slowOf_bdG HP.out rs[k].xs
      have hlen : ((rowNums rs).take k).length ≤ 40 := by have := HLS.out; have := HZ.out; simp; omega
      have hs2 := hs0.1
      have hs3 : sumSlow xs ((rowNums rs).take k) ≤ 40000 := by omega
      have hs4 := hs1.1
      have hs5 := hs1.2
      have HNX := Lib.hid (show sumSlow xs ((rowNums rs).take (k + 1)) = sumSlow xs ((rowNums rs).take k) + slowOf xs rs[k].xs by rw [sumSlow_next hkl, rowNums_get hkr])
      have HST := Lib.hid hst
      clear hs0 hs1 hlen hst
      go_wp2_with fail
      refine (paTime_any A _ n c _ _ xs _ s _ hA1 HX.out hok.1 hok.2.1 hok.2.2 hn HST.out).mono ?_
      rintro e w1 ⟨rfl, hb1⟩
      have h1 := h0.below hb1
      have hbb := below_then hb hb1 hb.size
      clear hb hb1 h0 hA1 hok c0 c1
      go_wp2
      go_roundw
      case rel => exact ⟨k + 1, by omega, by go_num, by rw [HNX.out], h1, hbb⟩
      case measure => simp [intOf]; omega
    · have hkn : k = q := by omega
      subst hkn
      have HTK := Lib.hid (List.take_of_length_le (l := rowNums rs) (i := k) (by have := HLS.out; have := HZ.out; omega))
      clear c0 c1
      go_wp2
      go_ret
      exact ⟨ret_of (by rw [HTK.out]; rfl), hb⟩


theorem slow_list {xs : List Int} {t : Pt} (h : OkT xs t) (hm : ∀ y ∈ xs, 1 ≤ y ∧ y ≤ 1000) : slowOf xs (listT t) = t.2.2 := by
  obtain ⟨⟨a1, a2, a3⟩, ⟨b1, b2, b3⟩, h3⟩ := h
  have g : ∀ i : Int, 0 ≤ i → i < xs.length → 1 ≤ tm xs i := fun i h1 h2 => by
    have hx : i.toNat < xs.length := by omega
    have := hm _ (List.getElem_mem hx)
    simp only [tm, List.getD_eq_getElem?_getD, List.getElem?_eq_getElem hx, Option.getD_some]
    omega
  have ga := g _ a2 a3
  have gb := g _ b2 b3
  have hf : ∀ l : List Int, slowOf xs l = (l.map (tm xs)).foldl max 0 := fun l => rfl
  rw [hf]
  rcases h3 with h3 | ⟨h3, h4⟩
  · have : listT t = [t.2.1] := by
      obtain ⟨t1, t2⟩ := t
      obtain rfl : t1 = t2 := h3
      simp [listT, isAlone]
    rw [this]
    show max 0 (tm xs t.2.1) = _
    omega
  · have hne : ¬ t.1 = t.2 := fun e => h3 (by rw [e])
    have : listT t = [min t.1.1 t.2.1, max t.1.1 t.2.1] := by simp [listT, isAlone, hne]
    rw [this]
    show max (max 0 (tm xs (min t.1.1 t.2.1))) (tm xs (max t.1.1 t.2.1)) = _
    rcases Int.le_total t.1.1 t.2.1 with h | h
    · rw [Int.min_eq_left h, Int.max_eq_right h]
      omega
    · rw [Int.min_eq_right h, Int.max_eq_left h]
      omega
theorem sum_trips {xs : List Int} {ts : List Pt} (h : ∀ t ∈ ts, OkT xs t) (hm : ∀ y ∈ xs, 1 ≤ y ∧ y ≤ 1000) : sumSlow xs (ts.map listT) = timeT ts := by
  rw [sumSlow, timeT, List.map_map]
  congr 1
  exact List.map_congr_left fun t ht => slow_list (h t ht) hm
theorem all_trips {xs : List Int} {n : Nat} {ts : List Pt} (hx : xs.length = n) (h : ∀ t ∈ ts, OkT xs t) : AllTrips n (ts.map listT) := by
  intro k hk
  rw [List.getElem_map]
  have := (h _ (List.getElem_mem (by simpa using hk : k < ts.length))).steps
  rw [hx] at this
  exact this

set_option maxHeartbeats 1600000 in
theorem prSum_any (A D : Option Addr) (n c q z : Nat) (xs : List Int) (rs : List RowV) (w : World) (hA : Holds w A (nums xs)) (hD : Grid w D rs) (hx : xs.length = n) (hz : rs.length = q) (hn : n ≤ 9223372036854775807) (hq : q ≤ 40) (hp : ∀ y ∈ xs, 1 ≤ y ∧ y ≤ 1000) (ht : AllTrips n (rowNums rs)) :
    Calls Try.prog 183 #[.slice A n c, .slice D q z] w fun e w' => e = .returned (.int .i64 (sumSlow xs (rowNums rs))) ∧ Below w.heap.size w w' := by
  have HX := Lib.hid hx
  have HZ := Lib.hid hz
  have HP := Lib.hid hp
  have HT := Lib.hid ht
  clear hx hz hp ht
  go_enter Try.func183, Try.ntmps183
  go_wp2_with fail
  refine (paSumG_any A D n c q z xs rs 0 _ hA hD HX.out HZ.out hn hq HP.out HT.out).mono ?_
  rintro e w1 ⟨rfl, hb⟩
  go_wp2
  go_ret
  exact ⟨rfl, hb⟩
end Go.Proofs.Ytkocompjjogciaa

namespace Go.Proofs.Ytkocompjjogciaa
open Go.RowKit

theorem own_holdsK {w : World} {base size : Nat} {e : TypeId} {T : Option Addr} {n c : Nat} {xs : List Value} (h : w.ownsRow base e size (.slice T n c) n xs) : Holds w T xs := by
  obtain ⟨hl, ⟨-, hn⟩ | ⟨g, cap, cur, hv, -, hh, h1, h2, h3, h4⟩⟩ := h
  · subst hn
    exact .inl (List.eq_nil_of_length_eq_zero (by simpa using hl))
  · obtain ⟨rfl, -⟩ : T = some ⟨g, 0, none⟩ ∧ c = cap := by simpa using hv
    have hw : Whole w g e cur := hh
    refine .inr ⟨g, 0, rfl, hw.lt, fun j u hu => ?_⟩
    have hj : j < xs.length := (List.getElem?_eq_some_iff.1 hu).1
    rw [Nat.zero_add, hw.cell j, ← hu]
    rw [hl] at hj
    have := congrArg (fun l : List Value => l[j]?) h4
    simpa [List.getElem?_take, hj] using this
theorem prTs_time_no {f : Bool} {xs : List Int} (h : prOk xs = false) : timeT (prTs f xs) = 0 := by rw [prTs_no h]; rfl
theorem prTs_bd (f : Bool) (xs : List Int) : 0 ≤ timeT (prTs f xs) ∧ timeT (prTs f xs) ≤ 24000 := by
  have h1 := timeT_bd (ts := prTs f xs) prTs_mild
  have h2 := prTs_len f xs
  omega
theorem prTrips_at (A : Option Addr) (n c : Nat) (xs : List Int) (e : Bool) (w : World) (hA : Holds w A (nums xs)) (hx : xs.length = n) (hp : prOk xs = true) :
    Calls Try.prog 182 #[.slice A n c, .bool e] w (PrPost ((prTs (!e) xs).map listT) (signsT (!e) (mk xs (ord xs)) xs.length) (evenT (mk xs (ord xs)) xs.length) w) := by
  have h := prTrips_any A n c xs e w hA hx hp
  rw [prTs_yes hp, hx]
  exact h
theorem prSum_at (A D : Option Addr) (n c z : Nat) (xs : List Int) (f : Bool) (rs : List RowV) (w : World) (hA : Holds w A (nums xs)) (hD : Grid w D rs) (hx : xs.length = n) (hp : prOk xs = true) (hr : rowNums rs = (prTs f xs).map listT) :
    Calls Try.prog 183 #[.slice A n c, .slice D rs.length z] w fun e w' => e = .returned (.int .i64 (timeT (prTs f xs))) ∧ Below w.heap.size w w' := by
  have hm := (prOk_parts hp).2.2
  have hl : rs.length ≤ 24 := by
    have h1 := congrArg List.length hr
    rw [rowNums_len, List.length_map] at h1
    have := prTs_len f xs
    omega
  have h := prSum_any A D n c rs.length z xs rs w hA hD hx rfl (by have := (prOk_parts hp).2.1; omega) (by omega) hm (by rw [hr]; exact all_trips hx prTs_ok)
  rw [hr, sum_trips prTs_ok hm] at h
  exact h

set_option maxHeartbeats 1600000 in
theorem prTime_any (A : Option Addr) (n c : Nat) (xs : List Int) (w : World) (hA : Holds w A (nums xs)) (hx : xs.length = n) (hp : prOk xs = true) :
    Calls Try.prog 181 #[.slice A n c] w fun e w' => e = .returned (.int .i64 (timeT (prTs true xs))) ∧ Below w.heap.size w w' := by
  have HX := Lib.hid hx
  have HP := Lib.hid hp
  clear hx hp
  go_enter Try.func181, Try.ntmps181
  go_wp2_with fail
  refine (prTrips_at A n c xs false _ hA HX.out HP.out).mono ?_
  rintro e w1 ⟨E, d, rs, rfl, hr, hh, hb⟩
  have HR := Lib.hid hr
  have hG := hh.free.grid
  have HB := Lib.hid hb
  have hA1 := hA.below hb
  clear hr hh hb
  go_wp2_with fail
  refine (prSum_at A E n c d xs true rs _ hA1 hG HX.out HP.out HR.out).mono ?_
  rintro e w2 ⟨rfl, hb⟩
  have HB2 := Lib.hid (below_then HB.out hb HB.out.size)
  clear hb hG
  go_wp2
  go_ret
  exact ⟨rfl, HB2.out⟩

set_option maxHeartbeats 1600000 in
theorem implPairTime_any (A : Option Addr) (n c : Nat) (xs : List Int) (w : World) (hA : Holds w A (nums xs)) (hx : xs.length = n) (hn : n ≤ 9223372036854775807) :
    Calls Try.prog 168 #[.slice A n c] w fun e w' => e = .returned (.tuple #[.int .i64 (timeT (prTs true xs)), .bool (prOk xs)]) ∧ Below w.heap.size w w' := by
  have HX := Lib.hid hx
  clear hx
  go_enter Try.func168, Try.ntmps168
  go_wp2_with fail
  refine (pairTrips_any A n c xs true _ hA HX.out hn).mono ?_
  rintro e w1 ⟨E, d, rfl, hown, hb⟩
  have hl := prTs_len true xs
  have HM := Lib.hid (prTs_mild (f := true) (xs := xs))
  generalize hte : prTs true xs = ts at hown hl HM ⊢
  have HTE := Lib.hid hte
  clear hte
  have HO := Lib.hid (own_holdsK hown)
  have HB := Lib.hid hb
  clear hown hb
  go_wp2_with fail
  refine (timeOfTrips_any E ts.length d ts _ HO.out rfl hl HM.out).mono ?_
  rintro e w2 ⟨rfl, hb⟩
  have HB2 := Lib.hid (below_then HB.out hb HB.out.size)
  clear hb
  go_wp2
  go_ret2
  rw [HTE.out]
  exact ⟨rfl, HB2.out⟩

end Go.Proofs.Ytkocompjjogciaa

namespace Go.Proofs.Ytkocompjjogciaa
open Go.RowKit

set_option maxHeartbeats 1600000 in
theorem implEscortTime_any (A : Option Addr) (n c : Nat) (xs : List Int) (w : World) (hA : Holds w A (nums xs)) (hx : xs.length = n) (hn : n ≤ 9223372036854775807) :
    Calls Try.prog 169 #[.slice A n c] w fun e w' => e = .returned (.tuple #[.int .i64 (timeT (prTs false xs)), .bool (prOk xs)]) ∧ Below w.heap.size w w' := by
  have HX := Lib.hid hx
  clear hx
  go_enter Try.func169, Try.ntmps169
  go_wp2_with fail
  refine (pairTrips_any A n c xs false _ hA HX.out hn).mono ?_
  rintro e w1 ⟨E, d, rfl, hown, hb⟩
  have hl := prTs_len false xs
  have HM := Lib.hid (prTs_mild (f := false) (xs := xs))
  generalize hte : prTs false xs = ts at hown hl HM ⊢
  have HTE := Lib.hid hte
  clear hte
  have HO := Lib.hid (own_holdsK hown)
  have HB := Lib.hid hb
  clear hown hb
  go_wp2_with fail
  refine (timeOfTrips_any E ts.length d ts _ HO.out rfl hl HM.out).mono ?_
  rintro e w2 ⟨rfl, hb⟩
  have HB2 := Lib.hid (below_then HB.out hb HB.out.size)
  clear hb
  go_wp2
  go_ret2
  rw [HTE.out]
  exact ⟨rfl, HB2.out⟩
end Go.Proofs.Ytkocompjjogciaa

namespace Go.Proofs.Ytkocompjjogciaa
open Go.RowKit

set_option maxHeartbeats 1600000 in
theorem pzClue_any (p : Int) (c : Cl) (w : World) (hp : 1 ≤ p) (hp4 : p ≤ 4) :
    Calls Try.prog 115 #[.int .i64 p, .agg (clC c)] w fun e w' => e = .returned (.bool (clOk p c)) ∧ Below w.heap.size w w' := by
  obtain ⟨k, a, b⟩ := c
  have hbl := below1 w (.cells #[.int .i64 k, .int .i64 a, .int .i64 b] 87)
  have HBL := Lib.hid hbl
  change Calls Try.prog 115 #[.int .i64 p, .agg #[.int .i64 k, .int .i64 a, .int .i64 b]] w _
  clear hbl
  have hpw : IntKind.i64.wrap (p - 1) = p - 1 := IntWalk.i64_in _ (by omega)
  by_cases h0 : k = 0
  · subst h0
    cases hwa : within a 0 (p - 1)
    · have HA := Lib.hid hwa
      have HC : Hid (clOk p (0, a, b) = false) := by show _ = _; rw [clOk0, hwa]; rfl
      clear hwa
      go_enter Try.func115, Try.ntmps115
      go_wp2_with (go_at_call 128; refine (l1In_any _ _ _ _).mono ?_; rintro e w' ⟨rfl, rfl⟩; rw [HA.out])
      go_ret
      exact ⟨ret_of (by rw [HC.out]; rfl), HBL.out⟩
    · have HA := Lib.hid hwa
      have HC : Hid (clOk p (0, a, b) = within b 1 6) := by show _ = _; rw [clOk0, hwa]; rfl
      clear hwa
      go_enter Try.func115, Try.ntmps115
      go_wp2_with (go_at_call 128; refine (l1In_any _ _ _ _).mono ?_; rintro e w' ⟨rfl, rfl⟩; (try rw [HA.out]))
      go_ret
      exact ⟨ret_of (by rw [HC.out]; rfl), HBL.out⟩
  by_cases h4 : k = 4
  · subst h4
    cases hwa : within a 0 (p - 1)
    · have HA := Lib.hid hwa
      have HC : Hid (clOk p (4, a, b) = false) := by show _ = _; rw [clOk4, hwa]; rfl
      clear hwa
      go_enter Try.func115, Try.ntmps115
      go_wp2_with (go_at_call 128; refine (l1In_any _ _ _ _).mono ?_; rintro e w' ⟨rfl, rfl⟩; rw [HA.out])
      go_ret
      exact ⟨ret_of (by rw [HC.out]; rfl), HBL.out⟩
    · have HA := Lib.hid hwa
      have HC : Hid (clOk p (4, a, b) = within b 0 5) := by show _ = _; rw [clOk4, hwa]; rfl
      clear hwa
      go_enter Try.func115, Try.ntmps115
      go_wp2_with (go_at_call 128; refine (l1In_any _ _ _ _).mono ?_; rintro e w' ⟨rfl, rfl⟩; (try rw [HA.out]))
      go_ret
      exact ⟨ret_of (by rw [HC.out]; rfl), HBL.out⟩
  by_cases hb : b = 0
  · subst hb
    have e00 : within 0 0 0 = true := rfl
    by_cases h1 : k = 1
    · subst h1
      have HC : Hid (clOk p (1, a, 0) = within a 1 24) := by show _ = _; rw [clOk1, e00, Bool.and_true]
      clear h0 h4 e00
      go_enter Try.func115, Try.ntmps115
      go_wp2_with (go_at_call 128; refine (l1In_any _ _ _ _).mono ?_; rintro e w' ⟨rfl, rfl⟩)
      go_ret
      exact ⟨ret_of (by rw [HC.out]; rfl), HBL.out⟩
    by_cases h2 : k = 2
    · subst h2
      have HC : Hid (clOk p (2, a, 0) = within a 1 100) := by show _ = _; rw [clOk2, e00, Bool.and_true]
      clear h0 h4 e00 h1
      go_enter Try.func115, Try.ntmps115
      go_wp2_with (go_at_call 128; refine (l1In_any _ _ _ _).mono ?_; rintro e w' ⟨rfl, rfl⟩)
      go_ret
      exact ⟨ret_of (by rw [HC.out]; rfl), HBL.out⟩
    by_cases h3 : k = 3
    · subst h3
      have HC : Hid (clOk p (3, a, 0) = within a 1 100) := by show _ = _; rw [clOk3, e00, Bool.and_true]
      clear h0 h4 e00 h1 h2
      go_enter Try.func115, Try.ntmps115
      go_wp2_with (go_at_call 128; refine (l1In_any _ _ _ _).mono ?_; rintro e w' ⟨rfl, rfl⟩)
      go_ret
      exact ⟨ret_of (by rw [HC.out]; rfl), HBL.out⟩
    by_cases h5 : k = 5
    · subst h5
      have HC : Hid (clOk p (5, a, 0) = within a 0 p) := by show _ = _; rw [clOk5, e00, Bool.and_true]
      clear h0 h4 e00 h1 h2 h3
      go_enter Try.func115, Try.ntmps115
      go_wp2_with (go_at_call 128; refine (l1In_any _ _ _ _).mono ?_; rintro e w' ⟨rfl, rfl⟩)
      go_ret
      exact ⟨ret_of (by rw [HC.out]; rfl), HBL.out⟩
    have HC := Lib.hid (clOk_no (p := p) (a := a) (b := 0) h0 h1 h2 h3 h4 h5)
    go_enter Try.func115, Try.ntmps115
    go_wp2_with fail
    go_ret
    exact ⟨ret_of (by rw [HC.out]; rfl), HBL.out⟩
  · have HC := Lib.hid (clOk_b (p := p) (a := a) h0 h4 hb)
    go_enter Try.func115, Try.ntmps115
    go_wp2_with fail
    go_ret
    exact ⟨ret_of (by rw [HC.out]; rfl), HBL.out⟩

set_option maxHeartbeats 1600000 in
theorem pzGood_any (p : Int) (A : Option Addr) (n c : Nat) (cs : List Cl) (w : World) (hA : Holds w A (clsC cs)) (hx : cs.length = n) (hn : n ≤ 9223372036854775807) :
    Calls Try.prog 114 #[.agg #[.int .i64 p, .slice A n c]] w fun e w' => e = .returned (.bool (pzOk p cs)) ∧ Below w.heap.size w w' := by
  subst hx
  have hbl := below1 w (.cells #[.int .i64 p, .slice A cs.length c] 83)
  have HBL := Lib.hid hbl
  cases hpw : within p 1 4
  · have HP := Lib.hid (pzOk_people (cs := cs) hpw)
    have HW := Lib.hid hpw
    clear hpw hbl
    go_enter Try.func114, Try.ntmps114
    go_wp2_with (go_at_call 159; refine (pzPeople_any _ _).mono ?_; rintro e w' ⟨rfl, rfl⟩; rw [HW.out])
    go_ret
    exact ⟨ret_of (by rw [HP.out]; rfl), HBL.out⟩
  · by_cases hl : 6 < cs.length
    · have HP := Lib.hid (pzOk_long (p := p) hl)
      have HW := Lib.hid hpw
      have hl' : (6 : Int) < cs.length := by omega
      clear hpw hbl
      go_enter Try.func114, Try.ntmps114
      go_wp2_with (go_at_call 159; refine (pzPeople_any _ _).mono ?_; rintro e w' ⟨rfl, rfl⟩; rw [HW.out])
      go_ret
      exact ⟨ret_of (by rw [HP.out]; rfl), HBL.out⟩
    · have HP := Lib.hid (pzOk_all (cs := cs) hpw (by omega))
      have HW := Lib.hid hpw
      obtain ⟨hp1, hp4⟩ := within_iff.1 hpw
      have hl' : ¬ (6 : Int) < cs.length := by omega
      have hw0 := Whole.fresh w 83 #[.int .i64 p, .slice A cs.length c]
      obtain ⟨W, hW⟩ : ∃ W, W = w.alloc (.cells #[.int .i64 p, .slice A cs.length c] 83) := ⟨_, rfl⟩
      have hAW : Holds W A (clsC cs) := by rw [hW]; exact hA.below hbl
      rw [← hW] at hw0 hbl
      have HAW := Lib.hid hAW
      have HB := Lib.hid hbl
      have H0 := Lib.hid hw0
      have HWW := Lib.hid hW
      clear hpw hbl HBL hA hAW hW hw0
      go_enter Try.func114, Try.ntmps114
      go_wp2_with (go_at_call 159; refine (pzPeople_any _ _).mono ?_; rintro e w' ⟨rfl, rfl⟩; rw [HW.out])
      rw [← HWW.out]
      go_loopw [18] (fun i wr => ∃ k : Nat, i = .int .i64 k ∧ k ≤ cs.length ∧ Below W.heap.size W wr ∧ ∀ j (h : j < cs.length), j < k → clOk p cs[j] = true) (fun i _ => cs.length - (intOf i).toNat)
      case atStart => exact ⟨0, rfl, by omega, Below.refl _ _, fun j h1 h2 => absurd h2 (by omega)⟩
      case round =>
        obtain ⟨k, rfl, hk, hb, hall⟩ := hrel
        have HALL := Lib.hid hall
        clear hall
        by_cases hlt : k < cs.length
        · obtain ⟨g, o, rfl, hg, c0, c1, c2⟩ := cls_look (HAW.out.below hb) hlt
          obtain ⟨⟨x1, x2, x3⟩, hx⟩ : ∃ x, x = cs[k] := ⟨_, rfl⟩
          rw [← hx] at c0 c1 c2
          dsimp only at c0 c1 c2
          have hw1 := H0.out.below hb
          obtain ⟨d0, d1⟩ := hw1.cells2
          have hgw : w.heap.size < wr.heap.size := hw1.lt
          have hkl : (k : Int) < cs.length := by omega
          have hb1 : Below W.heap.size W (wr.alloc (.cells #[.int .i64 x1, .int .i64 x2, .int .i64 x3] 87)) := hb.alloc hb.size _
          have HB1 := Lib.hid hb1
          have hbs : w.heap.size ≤ W.heap.size := HB.out.size
          cases hok : clOk p (x1, x2, x3)
          · have HP2 := Lib.hid (HP.out.trans (all_no (p := p) (k := k) hlt (by rw [← hx]; exact hok)))
            have HOK := Lib.hid hok
            clear hx hok hw1 hb hb1
            go_wp2_with fail
            refine (pzClue_any p (x1, x2, x3) _ hp1 hp4).mono ?_
            rintro e w2 ⟨rfl, hb2⟩
            rw [HOK.out]
            have HF := Lib.hid (HB.out.trans ((HB1.out.trans (hb2.mono HB1.out.size)).mono hbs))
            clear hb2
            go_wp2
            go_ret
            exact ⟨ret_of (by rw [HP2.out]; rfl), HF.out⟩
          · have HOK := Lib.hid hok
            have HX := Lib.hid hx
            clear hx hok hw1 hb hb1
            go_wp2_with fail
            refine (pzClue_any p (x1, x2, x3) _ hp1 hp4).mono ?_
            rintro e w2 ⟨rfl, hb2⟩
            rw [HOK.out]
            have HF := Lib.hid (HB1.out.trans (hb2.mono HB1.out.size))
            clear hb2
            go_wp2
            go_roundw
            case rel => exact ⟨k + 1, by go_num, by omega, HF.out, fun j h1 h2 => by
              rcases Nat.lt_or_ge j k with h3 | h3
              · exact HALL.out j h1 h3
              · obtain rfl : j = k := by omega
                rw [← HX.out]; exact HOK.out⟩
            case measure => simp [intOf]; omega
        · have HP2 := Lib.hid (HP.out.trans (all_yes (p := p) fun j hj => HALL.out j hj (by omega)))
          have HF := Lib.hid (below_then HB.out hb HB.out.size)
          clear hb
          go_wp2
          go_ret
          exact ⟨ret_of (by rw [HP2.out]; rfl), HF.out⟩

theorem pzOk_one (p : Int) (c : Cl) : pzOk p [c] = (within p 1 4 && clOk p c) := by simp [pzOk]
end Go.Proofs.Ytkocompjjogciaa

namespace Go.Proofs.Ytkocompjjogciaa
open Go.RowKit

/-- How many numbers are even. -/
def evI (xs : List Int) : Int := (xs.map fun x => 1 - x % 2).sum
theorem evI_next {xs : List Int} {k : Nat} (hk : k < xs.length) : evI (xs.take (k + 1)) = evI (xs.take k) + (1 - xs[k] % 2) := by
  rw [List.take_succ_eq_append_getElem hk, evI, List.map_append, List.sum_append]
  rw [List.map_cons, List.map_nil, List.sum_cons, List.sum_nil, Int.add_zero]
  rfl
theorem sum_next {xs : List Int} {k : Nat} (hk : k < xs.length) : (xs.take (k + 1)).sum = (xs.take k).sum + xs[k] := by
  rw [List.take_succ_eq_append_getElem hk, List.sum_append, List.sum_cons, List.sum_nil, Int.add_zero]
theorem rem_two (x : Int) : x % 2 = 0 ∨ x % 2 = 1 := by omega
theorem sums_bd {xs : List Int} (h : ∀ y ∈ xs, 1 ≤ y ∧ y ≤ 6) : ∀ k, k ≤ xs.length → (0 ≤ (xs.take k).sum ∧ (xs.take k).sum ≤ 6 * k) ∧ (0 ≤ evI (xs.take k) ∧ evI (xs.take k) ≤ k)
  | 0, _ => by simp [evI]
  | k + 1, hk => by
    have ih := sums_bd h k (by omega)
    have hx := h xs[k] (List.getElem_mem _)
    have hr := rem_two xs[k]
    rw [sum_next (by omega), evI_next (by omega)]
    omega
/-- What a clue of a kind tells of times, with a person. -/
def valC (k a : Int) (xs : List Int) : Int :=
  if k = 0 then xs.getD a.toNat 0 else if k = 1 then xs.sum else if k = 2 then timeT (prTs true xs) else if k = 3 then timeT (prTs false xs) else if k = 4 then xs.getD a.toNat 0 - xs.getD 0 0 else evI xs
/-- Do times fit a clue? -/
def fitC (c : Cl) (xs : List Int) : Bool := if c.1 = 0 ∨ c.1 = 4 then decide (valC c.1 c.2.1 xs = c.2.2) else decide (valC c.1 0 xs = c.2.1)
theorem hid_ok {xs : List Int} (h : hidI xs = true) : prOk xs = true := by
  obtain ⟨h1, h4, hy, -⟩ := hidI_parts h
  rw [prOk, within_yes (by omega) (by omega), Bool.true_and]
  exact allIn_yes fun k hk => within_yes (hy _ (List.getElem_mem hk)).1 (Int.le_trans (hy _ (List.getElem_mem hk)).2 (by omega))

set_option maxHeartbeats 3200000 in
theorem pzValue_any (k a : Int) (A : Option Addr) (n c : Nat) (xs : List Int) (w : World) (hA : Holds w A (nums xs)) (hx : xs.length = n) (hh : hidI xs = true) (hk0 : 0 ≤ k) (hk5 : k ≤ 5) (ha : k = 0 ∨ k = 4 → 0 ≤ a ∧ a < n) :
    Calls Try.prog 166 #[.int .i64 k, .int .i64 a, .slice A n c] w fun e w' => e = .returned (.int .i64 (valC k a xs)) ∧ Below w.heap.size w w' := by
  subst hx
  obtain ⟨h1, h4, hy, -⟩ := hidI_parts hh
  have hbd := sums_bd hy
  have HY := Lib.hid hy
  have HBD := Lib.hid hbd
  have HOK := Lib.hid (hid_ok hh)
  have HA := Lib.hid ha
  have HHA := Lib.hid hA
  clear hy hbd ha
  go_enter Try.func166, Try.ntmps166
  go_wp2
  go_loop [7, 8, 16] (fun s e i => ∃ j : Nat, j ≤ xs.length ∧ i = .int .i64 j ∧ s = .int .i64 (xs.take j).sum ∧ e = .int .i64 (evI (xs.take j))) (fun _ _ i => xs.length - (intOf i).toNat)
  case atStart => exact ⟨0, by omega, rfl, rfl, rfl⟩
  case round =>
    obtain ⟨j, hj, rfl, rfl, rfl⟩ := hrel
    by_cases hlt : j < xs.length
    · obtain ⟨b, o, rfl, hb, hc⟩ := hA.look (k := j) (by simpa [nums] using hlt)
      simp only [nums, List.getElem_map] at hc
      have HS := Lib.hid (sum_next hlt)
      have HE := Lib.hid (evI_next hlt)
      have hx1 := HY.out xs[j] (List.getElem_mem _)
      obtain ⟨x, hx⟩ : ∃ x, x = xs[j] := ⟨_, rfl⟩
      rw [← hx] at hc hx1
      rw [← hx] at HS HE
      obtain ⟨s, hs⟩ : ∃ s, s = (xs.take j).sum := ⟨_, rfl⟩
      obtain ⟨v, hv⟩ : ∃ v, v = evI (xs.take j) := ⟨_, rfl⟩
      have hbj := HBD.out j (by omega)
      rw [← hs, ← hv] at hbj
      rw [← hs] at HS ⊢
      rw [← hv] at HE ⊢
      have hjl : (j : Int) < xs.length := by omega
      have hsw : IntKind.i64.wrap (s + x) = s + x := IntWalk.i64_in _ (by omega)
      have hvw : IntKind.i64.wrap (v + 1) = v + 1 := IntWalk.i64_in _ (by omega)
      clear hx hs hv
      rcases rem_two x with hr | hr
      · have hrr : (x % 2 == 0) = true := by simp [hr]
        rw [hr] at HE
        clear hr
        go_wp2
        go_round
        case rel => exact ⟨j + 1, by omega, by go_num, by rw [HS.out], by rw [HE.out]; exact congrArg _ (by omega)⟩
        case measure => simp [intOf]; omega
      · have hrr : (x % 2 == 0) = false := by simp [hr]
        rw [hr] at HE
        clear hr
        go_wp2
        go_round
        case rel => exact ⟨j + 1, by omega, by go_num, by rw [HS.out], by rw [HE.out]; exact congrArg _ (by omega)⟩
        case measure => simp [intOf]; omega
    · obtain rfl : j = xs.length := by omega
      rw [List.take_length]
      by_cases e0 : k = 0
      · subst e0
        obtain ⟨ha0, han⟩ := HA.out (.inl rfl)
        obtain ⟨m, rfl⟩ := Int.eq_ofNat_of_zero_le ha0
        have hm : m < xs.length := by omega
        obtain ⟨b, o, rfl, hb, hc⟩ := hA.look (k := m) (by simpa [nums] using hm)
        simp only [nums, List.getElem_map] at hc
        have HV : Hid (valC 0 (m : Int) xs = xs[m]) := by show _ = _; simp [valC, hm]
        go_wp2
        go_ret
        exact ⟨ret_of (by rw [HV.out]; rfl), Below.refl _ _⟩
      by_cases e1 : k = 1
      · subst e1
        go_wp2
        go_ret
        exact ⟨rfl, Below.refl _ _⟩
      by_cases e2 : k = 2
      · subst e2
        go_wp2_with fail
        refine (prTime_any A _ c xs _ HHA.out rfl HOK.out).mono ?_
        rintro e w1 ⟨rfl, hb⟩
        go_wp2
        go_ret
        exact ⟨rfl, hb⟩
      by_cases e3 : k = 3
      · subst e3
        go_wp2_with fail
        refine (prTrips_at A _ c xs true _ HHA.out rfl HOK.out).mono ?_
        rintro e w1 ⟨E, d, rs, rfl, hr, hh, hb⟩
        have HR := Lib.hid hr
        have hG := hh.free.grid
        have HB := Lib.hid hb
        have hA1 := HHA.out.below hb
        clear hr hh hb
        go_wp2_with fail
        refine (prSum_at A E _ c d xs false rs _ hA1 hG rfl HOK.out HR.out).mono ?_
        rintro e w2 ⟨rfl, hb⟩
        have HB2 := Lib.hid (below_then HB.out hb HB.out.size)
        clear hb hG
        go_wp2
        go_ret
        exact ⟨rfl, HB2.out⟩
      by_cases e4 : k = 4
      · subst e4
        obtain ⟨ha0, han⟩ := HA.out (.inr rfl)
        obtain ⟨m, rfl⟩ := Int.eq_ofNat_of_zero_le ha0
        have hm : m < xs.length := by omega
        have h0 : 0 < xs.length := by omega
        obtain ⟨b, o, rfl, hb, hc⟩ := hA.look (k := m) (by simpa [nums] using hm)
        obtain ⟨b2, o2, hAe2, hb2, hc0⟩ := hA.look (k := 0) (by simpa [nums] using h0)
        obtain ⟨rfl, rfl⟩ : b = b2 ∧ o = o2 := by
          simp only [Option.some.injEq, Addr.mk.injEq] at hAe2
          exact ⟨hAe2.1, hAe2.2.1⟩
        clear hAe2 hb2
        simp only [nums, List.getElem_map, Nat.add_zero] at hc hc0
        have HV : Hid (valC 4 (m : Int) xs = xs[m] - xs[0]) := by show _ = _; simp [valC, hm, h0]
        have hxm := HY.out xs[m] (List.getElem_mem _)
        have hx0 := HY.out xs[0] (List.getElem_mem _)
        obtain ⟨x, hx⟩ : ∃ x, x = xs[m] := ⟨_, rfl⟩
        obtain ⟨y, hy⟩ : ∃ y, y = xs[0] := ⟨_, rfl⟩
        rw [← hx] at hc hxm
        rw [← hx, ← hy] at HV
        rw [← hy] at hc0 hx0
        have hxw : IntKind.i64.wrap (x - y) = x - y := IntWalk.i64_in _ (by omega)
        have h0i : (0 : Int) < xs.length := by omega
        clear hx hy
        go_wp2_with fail
        go_region
        go_wp2
        go_ret
        exact ⟨ret_of (by rw [HV.out]; rfl), (Below.refl _ _).drew⟩
      have e5 : k = 5 := by omega
      subst e5
      go_wp2
      go_ret
      exact ⟨rfl, Below.refl _ _⟩

theorem valC_noperson {k a : Int} {xs : List Int} (h0 : k ≠ 0) (h4 : k ≠ 4) : valC k a xs = valC k 0 xs := by simp [valC, h0, h4]
theorem clOk_kind {p k a b : Int} (h : clOk p (k, a, b) = true) : 0 ≤ k ∧ k ≤ 5 := by
  by_cases e0 : k = 0
  · omega
  by_cases e1 : k = 1
  · omega
  by_cases e2 : k = 2
  · omega
  by_cases e3 : k = 3
  · omega
  by_cases e4 : k = 4
  · omega
  by_cases e5 : k = 5
  · omega
  rw [clOk_no e0 e1 e2 e3 e4 e5] at h
  cases h
theorem clOk_person {p k a b : Int} (h : clOk p (k, a, b) = true) (hk : k = 0 ∨ k = 4) : 0 ≤ a ∧ a < p := by
  rcases hk with rfl | rfl
  · rw [clOk0, Bool.and_eq_true, within_iff] at h; omega
  · rw [clOk4, Bool.and_eq_true, within_iff] at h; omega
theorem clOk_rest {p k a b : Int} (h : clOk p (k, a, b) = true) (h0 : k ≠ 0) (h4 : k ≠ 4) : b = 0 := by
  by_cases hb : b = 0
  · exact hb
  · rw [clOk_b h0 h4 hb] at h; cases h

set_option maxHeartbeats 3200000 in
theorem pzFits_any (p k a b : Int) (A : Option Addr) (n c : Nat) (xs : List Int) (w : World) (hA : Holds w A (nums xs)) (hx : xs.length = n) (hh : hidI xs = true) (hc : clOk p (k, a, b) = true) (hp : p = n) :
    Calls Try.prog 193 #[.agg #[.int .i64 k, .int .i64 a, .int .i64 b], .slice A n c] w fun e w' => e = .returned (.bool (fitC (k, a, b) xs)) ∧ Below w.heap.size w w' := by
  obtain ⟨hk0, hk5⟩ := clOk_kind hc
  have HP := Lib.hid (fun h => (clOk_person hc h : 0 ≤ a ∧ a < p))
  have hw0 := Whole.fresh w 87 #[.int .i64 k, .int .i64 a, .int .i64 b]
  have hbl := below1 w (.cells #[.int .i64 k, .int .i64 a, .int .i64 b] 87)
  obtain ⟨W, hW⟩ : ∃ W, W = w.alloc (.cells #[.int .i64 k, .int .i64 a, .int .i64 b] 87) := ⟨_, rfl⟩
  have hAW : Holds W A (nums xs) := by rw [hW]; exact hA.below hbl
  rw [← hW] at hw0 hbl
  have HAW := Lib.hid hAW
  have HB := Lib.hid hbl
  have H0 := Lib.hid hw0
  have HWW := Lib.hid hW
  have HX := Lib.hid hx
  have HPN := Lib.hid hp
  clear hbl hA hAW hW hx hc hp
  by_cases h04 : k = 0 ∨ k = 4
  · have HF : Hid (fitC (k, a, b) xs = decide (valC k a xs = b)) := if_pos h04
    obtain ⟨c0, c1, c2⟩ := hw0.cells3
    have hlt := hw0.lt
    have hper := HP.out h04
    clear hw0
    have hcase : (k = 0 → True) ∧ (k = 4 → True) := ⟨fun _ => trivial, fun _ => trivial⟩
    clear hcase
    have hb0 : Below W.heap.size W W := Below.refl _ _
    have hval := fun (q : World) (hq : Below W.heap.size W q) => pzValue_any k a A n c xs q (HAW.out.below hq) HX.out hh hk0 hk5 (fun _ => by have := HPN.out; omega)
    have HVAL := Lib.hid hval
    clear hval
    rcases h04 with rfl | rfl
    · go_enter Try.func193, Try.ntmps193
      go_wp2_with fail
      rw [← HWW.out]
      go_region_held3 (fun w' => w'.cell? ⟨w.heap.size, 0, none⟩ = some (.int .i64 0) ∧ w'.cell? ⟨w.heap.size, 1, none⟩ = some (.int .i64 a) ∧ w'.cell? ⟨w.heap.size, 2, none⟩ = some (.int .i64 b)) (go_keep)
        (first | (go_at_call 166; refine (HVAL.out _ (Below.refl _ _).drew).mono ?_; rintro e w2 ⟨rfl, hb2⟩; have hb3 : Below W.heap.size W w2 := below_then (Below.refl W.heap.size W).drew hb2 (Nat.le_refl _); have hc3 := H0.out.below hb3; obtain ⟨e0, e1, e2⟩ := hc3.cells3; have HB3 := Lib.hid (below_then HB.out hb3 HB.out.size); clear hb2 hb3 hc3) | fail)
      go_wp2
      go_ret
      exact ⟨ret_of (by rw [HF.out]; rfl), HB3.out⟩
    · go_enter Try.func193, Try.ntmps193
      go_wp2_with fail
      rw [← HWW.out]
      go_region_held3 (fun w' => w'.cell? ⟨w.heap.size, 0, none⟩ = some (.int .i64 4) ∧ w'.cell? ⟨w.heap.size, 1, none⟩ = some (.int .i64 a) ∧ w'.cell? ⟨w.heap.size, 2, none⟩ = some (.int .i64 b)) (go_keep)
        (first | (go_at_call 166; refine (HVAL.out _ (Below.refl _ _).drew).mono ?_; rintro e w2 ⟨rfl, hb2⟩; have hb3 : Below W.heap.size W w2 := below_then (Below.refl W.heap.size W).drew hb2 (Nat.le_refl _); have hc3 := H0.out.below hb3; obtain ⟨e0, e1, e2⟩ := hc3.cells3; have HB3 := Lib.hid (below_then HB.out hb3 HB.out.size); clear hb2 hb3 hc3) | fail)
      go_wp2
      go_ret
      exact ⟨ret_of (by rw [HF.out]; rfl), HB3.out⟩
  · have HF : Hid (fitC (k, a, b) xs = decide (valC k 0 xs = a)) := if_neg h04
    obtain ⟨c0, c1, c2⟩ := hw0.cells3
    have hlt := hw0.lt
    clear hw0
    have hk0' : k ≠ 0 := fun e => h04 (.inl e)
    have hk4' : k ≠ 4 := fun e => h04 (.inr e)
    have HVAL := Lib.hid (fun (q : World) (hq : Below W.heap.size W q) => pzValue_any k 0 A n c xs q (HAW.out.below hq) HX.out hh hk0 hk5 (fun h => absurd h h04))
    have hk0b : (k == 0) = false := by simp [hk0']
    have hk4b : (k == 4) = false := by simp [hk4']
    clear h04
    go_enter Try.func193, Try.ntmps193
    go_wp2_with fail
    rw [← HWW.out]
    go_region_held3 (fun w' => w'.cell? ⟨w.heap.size, 0, none⟩ = some (.int .i64 k) ∧ w'.cell? ⟨w.heap.size, 1, none⟩ = some (.int .i64 a) ∧ w'.cell? ⟨w.heap.size, 2, none⟩ = some (.int .i64 b)) (go_keep)
      (first | (go_at_call 166; refine (HVAL.out _ (Below.refl _ _).drew).mono ?_; rintro e w2 ⟨rfl, hb2⟩; have hb3 : Below W.heap.size W w2 := below_then (Below.refl W.heap.size W).drew hb2 (Nat.le_refl _); have hc3 := H0.out.below hb3; obtain ⟨e0, e1, e2⟩ := hc3.cells3; have HB3 := Lib.hid (below_then HB.out hb3 HB.out.size); clear hb2 hb3 hc3) | fail)
    go_wp2
    go_ret
    exact ⟨ret_of (by rw [HF.out]; rfl), HB3.out⟩
end Go.Proofs.Ytkocompjjogciaa

namespace Go.Proofs.Ytkocompjjogciaa
open Go.RowKit

/-- The clue of a kind that times fit, with a person. -/
def clOfC (k a : Int) (xs : List Int) : Cl := if k = 0 ∨ k = 4 then (k, a, valC k a xs) else (k, valC k 0 xs, 0)

set_option maxHeartbeats 3200000 in
set_option linter.unusedVariables false in
theorem clueOf_0 (a : Int) (A : Option Addr) (n c : Nat) (xs : List Int) (w : World) (hA : Holds w A (nums xs)) (hx : xs.length = n) (hh : hidI xs = true) (ha : 0 ≤ a ∧ a < n) :
    Calls Try.prog 133 #[.int .i64 0, .int .i64 a, .slice A n c] w fun e w' => e = .returned (.agg (clC (clOfC 0 a xs))) ∧ Below w.heap.size w w' := by
  subst hx
  obtain ⟨h1, h4, hy, -⟩ := hidI_parts hh
  have hbd := sums_bd hy
  have HY := Lib.hid hy
  have HBD := Lib.hid hbd
  have HOK := Lib.hid (hid_ok hh)
  have hb2 := below2 w (.cells #[.int .i64 0, .int .i64 0, .int .i64 0] 87) (.cells #[.int .i64 0, .int .i64 0, .int .i64 0] 87)
  have HHA := Lib.hid (hA.below hb2)
  have HB2 := Lib.hid hb2
  clear hy hbd hb2
  obtain ⟨ha0, han⟩ := ha
  obtain ⟨m, rfl⟩ := Int.eq_ofNat_of_zero_le ha0
  have hm : m < xs.length := by omega
  obtain ⟨b, o, rfl, hb, hc⟩ := hA.look (k := m) (by simpa [nums] using hm)
  simp only [nums, List.getElem_map] at hc
  have HV : Hid (clOfC 0 (m : Int) xs = (0, (m : Int), xs[m])) := by show _ = _; simp [clOfC, valC, hm]
  obtain ⟨x, hx⟩ : ∃ x, x = xs[m] := ⟨_, rfl⟩
  rw [← hx] at hc HV
  clear hx
  go_enter Try.func133, Try.ntmps133
  go_wp2_with fail
  go_region
  go_wp2
  exact bodyPost_ret (v := .agg #[.int .i64 0, .int .i64 m, .int .i64 x]) (by simp [results, Try.results133, go_sem]) rfl ⟨by rw [HV.out]; rfl, (below2 w _ _).drew⟩

set_option maxHeartbeats 3200000 in
set_option linter.unusedVariables false in
theorem clueOf_1 (a : Int) (A : Option Addr) (n c : Nat) (xs : List Int) (w : World) (hA : Holds w A (nums xs)) (hx : xs.length = n) (hh : hidI xs = true) :
    Calls Try.prog 133 #[.int .i64 1, .int .i64 a, .slice A n c] w fun e w' => e = .returned (.agg (clC (clOfC 1 a xs))) ∧ Below w.heap.size w w' := by
  subst hx
  obtain ⟨h1, h4, hy, -⟩ := hidI_parts hh
  have hbd := sums_bd hy
  have HY := Lib.hid hy
  have HBD := Lib.hid hbd
  have HOK := Lib.hid (hid_ok hh)
  have hb2 := below2 w (.cells #[.int .i64 0, .int .i64 0, .int .i64 0] 87) (.cells #[.int .i64 1, .int .i64 0, .int .i64 0] 87)
  have HHA := Lib.hid (hA.below hb2)
  have HB2 := Lib.hid hb2
  clear hy hbd hb2
  have HV : Hid (clOfC 1 a xs = (1, xs.sum, 0)) := by show _ = _; simp [clOfC, valC]
  have hw0 := (Whole.fresh w 87 #[.int .i64 0, .int .i64 0, .int .i64 0]).alloc (.cells #[.int .i64 1, .int .i64 0, .int .i64 0] 87)
  have hw1 := Whole.fresh (w.alloc (.cells #[.int .i64 0, .int .i64 0, .int .i64 0] 87)) 87 #[.int .i64 1, .int .i64 0, .int .i64 0]
  rw [World.size_alloc] at hw1
  have H0 := Lib.hid hw0
  have H1 := Lib.hid hw1
  have HA0 := Lib.hid hA
  clear hw0 hw1
  go_enter Try.func133, Try.ntmps133
  go_wp2_with fail
  go_loopw [28] (fun i wr => ∃ j : Nat, j ≤ xs.length ∧ i = .int .i64 j ∧ Whole wr w.heap.size 87 #[.int .i64 0, .int .i64 0, .int .i64 0] ∧ Whole wr (w.heap.size + 1) 87 #[.int .i64 1, .int .i64 (xs.take j).sum, .int .i64 0] ∧ Below w.heap.size w wr) (fun i _ => xs.length - (intOf i).toNat)
  case atStart => exact ⟨0, by omega, rfl, H0.out, H1.out, HB2.out⟩
  case round =>
    obtain ⟨j, hj, rfl, hq0, hq1, hb⟩ := hrel
    obtain ⟨c0, c1, c2⟩ := hq0.cells3
    obtain ⟨d0, d1, d2⟩ := hq1.cells3
    have hl0 := hq0.lt
    have hl1 := hq1.lt
    have HQ0 := Lib.hid hq0
    have HQ1 := Lib.hid hq1
    by_cases hlt : j < xs.length
    · obtain ⟨b, o, rfl, hbl, hc⟩ := (HA0.out.below hb).look (k := j) (by simpa [nums] using hlt)
      simp only [nums, List.getElem_map] at hc
      have hbw : b < w.heap.size := by
        obtain ⟨b2, o2, h2, hb3, -⟩ := HA0.out.look (k := j) (by simpa [nums] using hlt)
        simp only [Option.some.injEq, Addr.mk.injEq] at h2
        obtain ⟨rfl, -⟩ := h2
        exact hb3
      have HS := Lib.hid (sum_next hlt)
      have hx1 := HY.out xs[j] (List.getElem_mem _)
      obtain ⟨x, hx⟩ : ∃ x, x = xs[j] := ⟨_, rfl⟩
      rw [← hx] at hc hx1
      rw [← hx] at HS
      obtain ⟨s, hs⟩ : ∃ s, s = (xs.take j).sum := ⟨_, rfl⟩
      have hbj := HBD.out j (by omega)
      rw [← hs] at hbj d1 HQ1
      rw [← hs] at HS
      have hjl : (j : Int) < xs.length := by omega
      have g1 := hq1.open_ 1
      have HB := Lib.hid hb
      have hsw : IntKind.i64.wrap (s + x) = s + x := IntWalk.i64_in _ (by omega)
      clear hx hs hq0 hq1 hb
      go_wp2
      go_roundw
      case rel => exact ⟨j + 1, by omega, by go_num, HQ0.out.off (by omega), by rw [HS.out]; exact HQ1.out.set_ 1 _, below_set HB.out (by omega)⟩
      case measure => simp [intOf]; omega
    · obtain rfl : j = xs.length := by omega
      rw [List.take_length] at d1
      have f0 := hq0.open_ 0
      have f1 := hq0.open_ 1
      have f2 := hq0.open_ 2
      obtain ⟨s, hs⟩ : ∃ s, s = xs.sum := ⟨_, rfl⟩
      rw [← hs] at d1 HV
      have HB := Lib.hid hb
      clear hq0 hq1 hb hs
      go_wp2
      exact bodyPost_ret (v := .agg #[.int .i64 1, .int .i64 s, .int .i64 0]) (by simp [results, Try.results133, go_sem, c0, c1, c2, d0, d1, d2]) rfl ⟨by rw [HV.out]; rfl, below_set (below_set (below_set HB.out (by omega)) (by omega)) (by omega)⟩

set_option maxHeartbeats 3200000 in
set_option linter.unusedVariables false in
theorem clueOf_2 (a : Int) (A : Option Addr) (n c : Nat) (xs : List Int) (w : World) (hA : Holds w A (nums xs)) (hx : xs.length = n) (hh : hidI xs = true) :
    Calls Try.prog 133 #[.int .i64 2, .int .i64 a, .slice A n c] w fun e w' => e = .returned (.agg (clC (clOfC 2 a xs))) ∧ Below w.heap.size w w' := by
  subst hx
  obtain ⟨h1, h4, hy, -⟩ := hidI_parts hh
  have hbd := sums_bd hy
  have HY := Lib.hid hy
  have HBD := Lib.hid hbd
  have HOK := Lib.hid (hid_ok hh)
  have hb2 := below2 w (.cells #[.int .i64 0, .int .i64 0, .int .i64 0] 87) (.cells #[.int .i64 2, .int .i64 0, .int .i64 0] 87)
  have HHA := Lib.hid (hA.below hb2)
  have HB2 := Lib.hid hb2
  clear hy hbd hb2
  have HV : Hid (clOfC 2 a xs = (2, timeT (prTs true xs), 0)) := by show _ = _; simp [clOfC, valC]
  obtain ⟨t, ht⟩ : ∃ t, t = timeT (prTs true xs) := ⟨_, rfl⟩
  rw [← ht] at HV
  have HT := Lib.hid ht
  clear ht
  have hw0 := (Whole.fresh w 87 #[.int .i64 0, .int .i64 0, .int .i64 0]).alloc (.cells #[.int .i64 2, .int .i64 0, .int .i64 0] 87)
  have hw1 := Whole.fresh (w.alloc (.cells #[.int .i64 0, .int .i64 0, .int .i64 0] 87)) 87 #[.int .i64 2, .int .i64 0, .int .i64 0]
  rw [World.size_alloc] at hw1
  have H0 := Lib.hid hw0
  have H1 := Lib.hid hw1
  clear hw0 hw1
  go_enter Try.func133, Try.ntmps133
  go_wp2_with fail
  refine (implPairTime_any A _ c xs _ HHA.out rfl (by omega)).mono ?_
  rintro e w2 ⟨rfl, hb⟩
  rw [HOK.out, ← HT.out]
  have hq0 := H0.out.below hb
  have hq1 := H1.out.below hb
  obtain ⟨c0, c1, c2⟩ := hq0.cells3
  obtain ⟨d0, d1, d2⟩ := hq1.cells3
  have hl0 := hq0.lt
  have hl1 := hq1.lt
  have f0 := hq0.open_ 0
  have f1 := hq0.open_ 1
  have f2 := hq0.open_ 2
  have g1 := hq1.open_ 1
  have HB3 := Lib.hid (below_then HB2.out hb HB2.out.size)
  clear hb hq0 hq1
  go_wp2
  exact bodyPost_ret (v := .agg #[.int .i64 2, .int .i64 t, .int .i64 0]) (by simp [results, Try.results133, go_sem, c0, c1, c2, d0, d1, d2]) rfl ⟨by rw [HV.out]; rfl, below_set (below_set (below_set (below_set HB3.out (by omega)) (by omega)) (by omega)) (by omega)⟩

set_option maxHeartbeats 3200000 in
set_option linter.unusedVariables false in
theorem clueOf_3 (a : Int) (A : Option Addr) (n c : Nat) (xs : List Int) (w : World) (hA : Holds w A (nums xs)) (hx : xs.length = n) (hh : hidI xs = true) :
    Calls Try.prog 133 #[.int .i64 3, .int .i64 a, .slice A n c] w fun e w' => e = .returned (.agg (clC (clOfC 3 a xs))) ∧ Below w.heap.size w w' := by
  subst hx
  obtain ⟨h1, h4, hy, -⟩ := hidI_parts hh
  have hbd := sums_bd hy
  have HY := Lib.hid hy
  have HBD := Lib.hid hbd
  have HOK := Lib.hid (hid_ok hh)
  have hb2 := below2 w (.cells #[.int .i64 0, .int .i64 0, .int .i64 0] 87) (.cells #[.int .i64 3, .int .i64 0, .int .i64 0] 87)
  have HHA := Lib.hid (hA.below hb2)
  have HB2 := Lib.hid hb2
  clear hy hbd hb2
  have HV : Hid (clOfC 3 a xs = (3, timeT (prTs false xs), 0)) := by show _ = _; simp [clOfC, valC]
  obtain ⟨t, ht⟩ : ∃ t, t = timeT (prTs false xs) := ⟨_, rfl⟩
  rw [← ht] at HV
  have HT := Lib.hid ht
  clear ht
  have hw0 := (Whole.fresh w 87 #[.int .i64 0, .int .i64 0, .int .i64 0]).alloc (.cells #[.int .i64 3, .int .i64 0, .int .i64 0] 87)
  have hw1 := Whole.fresh (w.alloc (.cells #[.int .i64 0, .int .i64 0, .int .i64 0] 87)) 87 #[.int .i64 3, .int .i64 0, .int .i64 0]
  rw [World.size_alloc] at hw1
  have H0 := Lib.hid hw0
  have H1 := Lib.hid hw1
  clear hw0 hw1
  go_enter Try.func133, Try.ntmps133
  go_wp2_with fail
  refine (implEscortTime_any A _ c xs _ HHA.out rfl (by omega)).mono ?_
  rintro e w2 ⟨rfl, hb⟩
  rw [HOK.out, ← HT.out]
  have hq0 := H0.out.below hb
  have hq1 := H1.out.below hb
  obtain ⟨c0, c1, c2⟩ := hq0.cells3
  obtain ⟨d0, d1, d2⟩ := hq1.cells3
  have hl0 := hq0.lt
  have hl1 := hq1.lt
  have f0 := hq0.open_ 0
  have f1 := hq0.open_ 1
  have f2 := hq0.open_ 2
  have g1 := hq1.open_ 1
  have HB3 := Lib.hid (below_then HB2.out hb HB2.out.size)
  clear hb hq0 hq1
  go_wp2
  exact bodyPost_ret (v := .agg #[.int .i64 3, .int .i64 t, .int .i64 0]) (by simp [results, Try.results133, go_sem, c0, c1, c2, d0, d1, d2]) rfl ⟨by rw [HV.out]; rfl, below_set (below_set (below_set (below_set HB3.out (by omega)) (by omega)) (by omega)) (by omega)⟩

set_option maxHeartbeats 3200000 in
set_option linter.unusedVariables false in
theorem clueOf_4 (a : Int) (A : Option Addr) (n c : Nat) (xs : List Int) (w : World) (hA : Holds w A (nums xs)) (hx : xs.length = n) (hh : hidI xs = true) (ha : 0 ≤ a ∧ a < n) :
    Calls Try.prog 133 #[.int .i64 4, .int .i64 a, .slice A n c] w fun e w' => e = .returned (.agg (clC (clOfC 4 a xs))) ∧ Below w.heap.size w w' := by
  subst hx
  obtain ⟨h1, h4, hy, -⟩ := hidI_parts hh
  have hbd := sums_bd hy
  have HY := Lib.hid hy
  have HBD := Lib.hid hbd
  have HOK := Lib.hid (hid_ok hh)
  have hb2 := below2 w (.cells #[.int .i64 0, .int .i64 0, .int .i64 0] 87) (.cells #[.int .i64 4, .int .i64 0, .int .i64 0] 87)
  have HHA := Lib.hid (hA.below hb2)
  have HB2 := Lib.hid hb2
  clear hy hbd hb2
  obtain ⟨ha0, han⟩ := ha
  obtain ⟨m, rfl⟩ := Int.eq_ofNat_of_zero_le ha0
  have hm : m < xs.length := by omega
  obtain ⟨b, o, rfl, hb, hc⟩ := hA.look (k := m) (by simpa [nums] using hm)
  have h0 : 0 < xs.length := by omega
  obtain ⟨b2, o2, hAe2, hb2, hc0⟩ := hA.look (k := 0) (by simpa [nums] using h0)
  obtain ⟨rfl, rfl⟩ : b = b2 ∧ o = o2 := by
    simp only [Option.some.injEq, Addr.mk.injEq] at hAe2
    exact ⟨hAe2.1, hAe2.2.1⟩
  clear hAe2 hb2
  simp only [nums, List.getElem_map, Nat.add_zero] at hc hc0
  have HV : Hid (clOfC 4 (m : Int) xs = ((4 : Int), (m : Int), xs[m] - xs[0])) := by show _ = _; simp [clOfC, valC, hm, h0]
  have hxm := HY.out xs[m] (List.getElem_mem _)
  have hx0 := HY.out xs[0] (List.getElem_mem _)
  obtain ⟨x, hx⟩ : ∃ x, x = xs[m] := ⟨_, rfl⟩
  obtain ⟨y, hy⟩ : ∃ y, y = xs[0] := ⟨_, rfl⟩
  rw [← hx] at hc hxm
  rw [← hx, ← hy] at HV
  rw [← hy] at hc0 hx0
  have hxw : IntKind.i64.wrap (x - y) = x - y := IntWalk.i64_in _ (by omega)
  have h0i : (0 : Int) < xs.length := by omega
  clear hx hy
  go_enter Try.func133, Try.ntmps133
  go_wp2_with fail
  go_region
  go_wp2
  exact bodyPost_ret (v := .agg #[.int .i64 4, .int .i64 m, .int .i64 (x - y)]) (by simp [results, Try.results133, go_sem]) rfl ⟨by rw [HV.out]; rfl, (below2 w _ _).drew⟩

set_option maxHeartbeats 3200000 in
set_option linter.unusedVariables false in
theorem clueOf_5 (a : Int) (A : Option Addr) (n c : Nat) (xs : List Int) (w : World) (hA : Holds w A (nums xs)) (hx : xs.length = n) (hh : hidI xs = true) :
    Calls Try.prog 133 #[.int .i64 5, .int .i64 a, .slice A n c] w fun e w' => e = .returned (.agg (clC (clOfC 5 a xs))) ∧ Below w.heap.size w w' := by
  subst hx
  obtain ⟨h1, h4, hy, -⟩ := hidI_parts hh
  have hbd := sums_bd hy
  have HY := Lib.hid hy
  have HBD := Lib.hid hbd
  have HOK := Lib.hid (hid_ok hh)
  have hb2 := below2 w (.cells #[.int .i64 0, .int .i64 0, .int .i64 0] 87) (.cells #[.int .i64 5, .int .i64 0, .int .i64 0] 87)
  have HHA := Lib.hid (hA.below hb2)
  have HB2 := Lib.hid hb2
  clear hy hbd hb2
  have HV : Hid (clOfC 5 a xs = (5, evI xs, 0)) := by show _ = _; simp [clOfC, valC]
  have hw0 := (Whole.fresh w 87 #[.int .i64 0, .int .i64 0, .int .i64 0]).alloc (.cells #[.int .i64 5, .int .i64 0, .int .i64 0] 87)
  have hw1 := Whole.fresh (w.alloc (.cells #[.int .i64 0, .int .i64 0, .int .i64 0] 87)) 87 #[.int .i64 5, .int .i64 0, .int .i64 0]
  rw [World.size_alloc] at hw1
  have H0 := Lib.hid hw0
  have H1 := Lib.hid hw1
  have HA0 := Lib.hid hA
  clear hw0 hw1
  go_enter Try.func133, Try.ntmps133
  go_wp2_with fail
  go_loopw [71] (fun i wr => ∃ j : Nat, j ≤ xs.length ∧ i = .int .i64 j ∧ Whole wr w.heap.size 87 #[.int .i64 0, .int .i64 0, .int .i64 0] ∧ Whole wr (w.heap.size + 1) 87 #[.int .i64 5, .int .i64 (evI (xs.take j)), .int .i64 0] ∧ Below w.heap.size w wr) (fun i _ => xs.length - (intOf i).toNat)
  case atStart => exact ⟨0, by omega, rfl, H0.out, H1.out, HB2.out⟩
  case round =>
    obtain ⟨j, hj, rfl, hq0, hq1, hb⟩ := hrel
    obtain ⟨c0, c1, c2⟩ := hq0.cells3
    obtain ⟨d0, d1, d2⟩ := hq1.cells3
    have hl0 := hq0.lt
    have hl1 := hq1.lt
    have HQ0 := Lib.hid hq0
    have HQ1 := Lib.hid hq1
    by_cases hlt : j < xs.length
    · obtain ⟨b, o, rfl, hbl, hc⟩ := (HA0.out.below hb).look (k := j) (by simpa [nums] using hlt)
      simp only [nums, List.getElem_map] at hc
      have hbw : b < w.heap.size := by
        obtain ⟨b2, o2, h2, hb3, -⟩ := HA0.out.look (k := j) (by simpa [nums] using hlt)
        simp only [Option.some.injEq, Addr.mk.injEq] at h2
        obtain ⟨rfl, -⟩ := h2
        exact hb3
      have HS := Lib.hid (evI_next hlt)
      have hx1 := HY.out xs[j] (List.getElem_mem _)
      obtain ⟨x, hx⟩ : ∃ x, x = xs[j] := ⟨_, rfl⟩
      rw [← hx] at hc hx1
      rw [← hx] at HS
      obtain ⟨s, hs⟩ : ∃ s, s = (evI (xs.take j)) := ⟨_, rfl⟩
      have hbj := HBD.out j (by omega)
      rw [← hs] at hbj d1 HQ1
      rw [← hs] at HS
      have hjl : (j : Int) < xs.length := by omega
      have g1 := hq1.open_ 1
      have HB := Lib.hid hb
      have hr := rem_two x
      have hsw0 : IntKind.i64.wrap (1 - x % 2) = 1 - x % 2 := IntWalk.i64_in _ (by omega)
      have hsw : IntKind.i64.wrap (s + (1 - x % 2)) = s + (1 - x % 2) := IntWalk.i64_in _ (by omega)
      clear hx hs hq0 hq1 hb hr
      go_wp2
      go_roundw
      case rel => exact ⟨j + 1, by omega, by go_num, HQ0.out.off (by omega), by rw [HS.out]; exact HQ1.out.set_ 1 _, below_set HB.out (by omega)⟩
      case measure => simp [intOf]; omega
    · obtain rfl : j = xs.length := by omega
      rw [List.take_length] at d1
      have f0 := hq0.open_ 0
      have f1 := hq0.open_ 1
      have f2 := hq0.open_ 2
      obtain ⟨s, hs⟩ : ∃ s, s = evI xs := ⟨_, rfl⟩
      rw [← hs] at d1 HV
      have HB := Lib.hid hb
      clear hq0 hq1 hb hs
      go_wp2
      exact bodyPost_ret (v := .agg #[.int .i64 5, .int .i64 s, .int .i64 0]) (by simp [results, Try.results133, go_sem, c0, c1, c2, d0, d1, d2]) rfl ⟨by rw [HV.out]; rfl, below_set (below_set (below_set HB.out (by omega)) (by omega)) (by omega)⟩

theorem clOfC_far {k a : Int} {xs : List Int} (h0 : k ≠ 0) (h4 : k ≠ 4) : clOfC k a xs = (k, valC k 0 xs, 0) := if_neg (fun h => h.elim h0 h4)
theorem clOfC_near {k a : Int} {xs : List Int} (h : k = 0 ∨ k = 4) : clOfC k a xs = (k, a, valC k a xs) := if_pos h
theorem clueOf_any (k a : Int) (A : Option Addr) (n c : Nat) (xs : List Int) (w : World) (hA : Holds w A (nums xs)) (hx : xs.length = n) (hh : hidI xs = true) (hk0 : 0 ≤ k) (hk5 : k ≤ 5) (ha : k = 0 ∨ k = 4 → 0 ≤ a ∧ a < n) :
    Calls Try.prog 133 #[.int .i64 k, .int .i64 a, .slice A n c] w fun e w' => e = .returned (.agg (clC (clOfC k a xs))) ∧ Below w.heap.size w w' := by
  rcases (show k = 0 ∨ k = 1 ∨ k = 2 ∨ k = 3 ∨ k = 4 ∨ k = 5 by omega) with rfl | rfl | rfl | rfl | rfl | rfl
  · exact clueOf_0 a A n c xs w hA hx hh (ha (.inl rfl))
  · exact clueOf_1 a A n c xs w hA hx hh
  · exact clueOf_2 a A n c xs w hA hx hh
  · exact clueOf_3 a A n c xs w hA hx hh
  · exact clueOf_4 a A n c xs w hA hx hh (ha (.inr rfl))
  · exact clueOf_5 a A n c xs w hA hx hh
end Go.Proofs.Ytkocompjjogciaa

namespace Go.Proofs.Ytkocompjjogciaa
open Go.RowKit

/-- Two clues compared. -/
def sameCl (k a b k' a' b' : Int) : Bool := k == k' && a == a' && b == b'
set_option maxHeartbeats 1600000 in
@[go_sem high] theorem clue_eq (k a b k' a' b' : Int) (w : World) : (Op.equalIn 10000 87 (.agg #[.int .i64 k, .int .i64 a, .int .i64 b]) (.agg #[.int .i64 k', .int .i64 a', .int .i64 b'])).run Try.prog w = .ok (sameCl k a b k' a' b') w := by
  unfold sameCl
  go_simp
  by_cases h0 : k = k'
  · subst h0
    by_cases h1 : a = a'
    · subst h1
      by_cases h2 : b = b'
      · subst h2; simp
      · simp [h2]
    · simp [h1]
  · simp [h0]
theorem same_fit {p k a b : Int} {xs : List Int} (hc : clOk p (k, a, b) = true) : sameCl k a b (clOfC k a xs).1 (clOfC k a xs).2.1 (clOfC k a xs).2.2 = fitC (k, a, b) xs := by
  by_cases h : k = 0 ∨ k = 4
  · rw [clOfC_near h, fitC, if_pos h]
    simp [sameCl, eq_comm]
    rfl
  · have h0 : k ≠ 0 := fun e => h (.inl e)
    have h4 : k ≠ 4 := fun e => h (.inr e)
    have hb := clOk_rest hc h0 h4
    subst hb
    rw [clOfC_far h0 h4, fitC, if_neg h]
    simp [sameCl, eq_comm]
    rfl

set_option maxHeartbeats 1600000 in
theorem fits_any (p k a b : Int) (A : Option Addr) (n c : Nat) (xs : List Int) (w : World) (hA : Holds w A (nums xs)) (hx : xs.length = n) (hh : hidI xs = true) (hc : clOk p (k, a, b) = true) (hp : p = n) :
    Calls Try.prog 197 #[.agg #[.int .i64 k, .int .i64 a, .int .i64 b], .slice A n c] w fun e w' => e = .returned (.bool (fitC (k, a, b) xs)) ∧ Below w.heap.size w w' := by
  obtain ⟨hk0, hk5⟩ := clOk_kind hc
  have HS := Lib.hid (same_fit (xs := xs) hc)
  have hper : k = 0 ∨ k = 4 → 0 ≤ a ∧ a < n := fun h => by have := clOk_person hc h; omega
  have hw0 := Whole.fresh w 87 #[.int .i64 k, .int .i64 a, .int .i64 b]
  have hbl := below1 w (.cells #[.int .i64 k, .int .i64 a, .int .i64 b] 87)
  obtain ⟨W, hW⟩ : ∃ W, W = w.alloc (.cells #[.int .i64 k, .int .i64 a, .int .i64 b] 87) := ⟨_, rfl⟩
  have hAW : Holds W A (nums xs) := by rw [hW]; exact hA.below hbl
  rw [← hW] at hw0 hbl
  have HCALL := Lib.hid (fun (q : World) (hq : Below W.heap.size W q) => clueOf_any k a A n c xs q (hAW.below hq) hx hh hk0 hk5 hper)
  have HB := Lib.hid hbl
  have H0 := Lib.hid hw0
  have HWW := Lib.hid hW
  obtain ⟨c0, c1, c2⟩ := hw0.cells3
  have hlt := hw0.lt
  obtain ⟨⟨y1, y2, y3⟩, hy⟩ : ∃ y, y = clOfC k a xs := ⟨_, rfl⟩
  rw [← hy] at HS HCALL
  dsimp only at HS
  clear hbl hA hAW hW hx hc hp hw0 hper hy
  go_enter Try.func197, Try.ntmps197
  go_wp2_with fail
  rw [← HWW.out]
  go_region_held3 (fun w' => w'.cell? ⟨w.heap.size, 0, none⟩ = some (.int .i64 k) ∧ w'.cell? ⟨w.heap.size, 1, none⟩ = some (.int .i64 a) ∧ w'.cell? ⟨w.heap.size, 2, none⟩ = some (.int .i64 b)) (go_keep)
    (first | (go_at_call 133; refine (HCALL.out _ (Below.refl _ _).drew).mono ?_; rintro e w2 ⟨rfl, hb2⟩; simp only [clC]; have hb3 : Below W.heap.size W w2 := below_then (Below.refl W.heap.size W).drew hb2 (Nat.le_refl _); have hc3 := H0.out.below hb3; obtain ⟨e0, e1, e2⟩ := hc3.cells3; have HB3 := Lib.hid (below_then HB.out hb3 HB.out.size); clear hb2 hb3 hc3) | fail)
  go_wp2
  go_ret
  exact ⟨ret_of (by rw [← HS.out]; rfl), HB3.out⟩

/-- Do hidden times and a clue of as many people belong together? -/
def dfOk (xs : List Int) (c : Cl) : Bool := hidI xs && clOk xs.length c
theorem hid_within {xs : List Int} (h : hidI xs = true) : within xs.length 1 4 = true := by
  obtain ⟨h1, h4, -⟩ := hidI_parts h
  exact within_yes (by omega) (by omega)

end Go.Proofs.Ytkocompjjogciaa

namespace Go.Proofs.Ytkocompjjogciaa
open Go.RowKit

/-- For each time from 7 - j to 6 what goes on with it. -/
def tailT (f : List Int → List (List Int)) (b : List Int) : Nat → List (List Int)
  | 0 => []
  | j + 1 => f (b ++ [6 - (j : Int)]) ++ tailT f b j
/-- The least time that may come next. -/
def fromL (b : List Int) : Int := b.getLastD 1
/-- All that go on from a beginning with n more times and pass. -/
def goOn (P : List Int → Bool) : Nat → List Int → List (List Int)
  | 0, b => if P b then [b] else []
  | n + 1, b => tailT (goOn P n) b (7 - fromL b).toNat
/-- A beginning of hidden times. -/
def BegL (b : List Int) : Prop := (∀ y ∈ b, 1 ≤ y ∧ y ≤ 6) ∧ sortI b = true
theorem begL_nil : BegL [] := ⟨fun y h => (by cases h), rfl⟩
theorem fromL_bd {b : List Int} (h : BegL b) : 1 ≤ fromL b ∧ fromL b ≤ 6 := by
  rcases List.eq_nil_or_concat b with rfl | ⟨l, x, rfl⟩
  · simp [fromL]
  · have := h.1 x (by simp)
    simpa [fromL] using this
theorem fromL_last {b : List Int} {k : Nat} (hk : k + 1 = b.length) : fromL b = b[k] := by
  rcases List.eq_nil_or_concat b with rfl | ⟨l, x, rfl⟩
  · simp at hk
  · have : k = l.length := by simpa using hk
    subst this
    simp [fromL]
theorem begL_snoc {b : List Int} {t : Int} (h : BegL b) (h1 : fromL b ≤ t) (h6 : t ≤ 6) : BegL (b ++ [t]) := by
  have hf := fromL_bd h
  refine ⟨fun y hy => ?_, sortI_yes fun k hk => ?_⟩
  · rcases List.mem_append.1 hy with hy | hy
    · exact h.1 y hy
    · obtain rfl : y = t := by simpa using hy
      omega
  · rw [List.length_append, List.length_singleton] at hk
    have hkb : k < b.length := by omega
    refine stepAt_of (by simp; omega) ?_
    rw [List.getElem_append_left hkb]
    rcases Nat.lt_or_ge (k + 1) b.length with h2 | h2
    · rw [List.getElem_append_left h2]
      have := sortI_at h.2 h2
      omega
    · have hk1 : k + 1 = b.length := by omega
      rw [List.getElem_append_right h2]
      have := fromL_last hk1
      simp
      omega
theorem begL_hid {b : List Int} (h : BegL b) (h1 : 1 ≤ b.length) (h4 : b.length ≤ 4) : hidI b = true :=
  hidI_yes h1 h4 ((allIn_iff _ _ _).2 h.1) h.2
theorem goOn_len (P : List Int → Bool) : ∀ (n : Nat) (b : List Int), (∀ y ∈ b, 1 ≤ y) → (goOn P n b).length ≤ 6 ^ n
  | 0, b, _ => by simp only [goOn]; split <;> simp
  | n + 1, b, hb => by
    have ht : ∀ j, j ≤ 6 → (tailT (goOn P n) b j).length ≤ j * 6 ^ n := by
      intro j
      induction j with
      | zero => intro _; simp [tailT]
      | succ j ih =>
        intro hj
        have h1 := ih (by omega)
        have h2 := goOn_len P n (b ++ [6 - (j : Int)]) (fun y hy => by
          rcases List.mem_append.1 hy with hy | hy
          · exact hb y hy
          · obtain rfl : y = 6 - (j : Int) := by simpa using hy
            omega)
        simp only [tailT, List.length_append]
        rw [Nat.succ_mul]
        omega
    have hf : 1 ≤ fromL b := by
      rcases List.eq_nil_or_concat b with rfl | ⟨l, x, rfl⟩
      · simp [fromL]
      · have := hb x (by simp)
        simpa [fromL] using this
    have hj : (7 - fromL b).toNat ≤ 6 := by omega
    have := ht _ hj
    have h3 : (7 - fromL b).toNat * 6 ^ n ≤ 6 * 6 ^ n := Nat.mul_le_mul_right _ hj
    simp only [goOn]
    rw [Nat.pow_succ]
    omega

/-- Of what was there only block og and the block of A may have turned. -/
structure Turned (og : Nat) (A : Option Addr) (w w' : World) : Prop where
  size : w.heap.size ≤ w'.heap.size
  block : ∀ k, k < w.heap.size → k ≠ og → (∀ a, A = some a → a.block ≠ k) → w'.heap[k]? = w.heap[k]?
/-- A list lies where the old one lay, or in a new block. -/
def NewOr (A A' : Option Addr) (w : World) : Prop := ∀ a', A' = some a' → (∃ a, A = some a ∧ a.block = a'.block) ∨ w.heap.size ≤ a'.block
theorem Turned.refl (og : Nat) (A : Option Addr) (w : World) : Turned og A w w := ⟨Nat.le_refl _, fun _ _ _ _ => rfl⟩
theorem NewOr.refl (A : Option Addr) (w : World) : NewOr A A w := fun a h => .inl ⟨a, h, rfl⟩
theorem Turned.of_below {og : Nat} {A : Option Addr} {w w' : World} (h : Below w.heap.size w w') : Turned og A w w' := ⟨h.size, fun k hk _ _ => h.block k hk⟩
theorem Turned.trans {og : Nat} {A A1 : Option Addr} {w w1 w2 : World} (h : Turned og A w w1) (hn : NewOr A A1 w) (k : Turned og A1 w1 w2) : Turned og A w w2 :=
  ⟨Nat.le_trans h.size k.size, fun j hj ho ha => (k.block j (Nat.lt_of_lt_of_le hj h.size) ho (fun a e => by
    rcases hn a e with ⟨a0, e0, hb⟩ | hb
    · rw [← hb]; exact ha a0 e0
    · omega)).trans (h.block j hj ho ha)⟩
theorem NewOr.trans {A A1 A2 : Option Addr} {w w1 : World} (h : NewOr A A1 w) (hs : w.heap.size ≤ w1.heap.size) (k : NewOr A1 A2 w1) : NewOr A A2 w := fun a e => by
  rcases k a e with ⟨a1, e1, hb⟩ | hb
  · rcases h a1 e1 with ⟨a0, e0, hb0⟩ | hb0
    · exact .inl ⟨a0, e0, hb0.trans hb⟩
    · exact .inr (by omega)
  · exact .inr (by omega)
theorem Heads.same {w w' : World} {lo c : Nat} {A : Option Addr} {rs : List RowV} (h : Heads w lo A c rs) (hs : w.heap.size ≤ w'.heap.size) (hk : ∀ k, lo ≤ k → k < w.heap.size → w'.heap[k]? = w.heap[k]?) : Heads w' lo A c rs := by
  obtain ⟨⟨hl, h1⟩, ps, ⟨k1, k2, k3⟩, h3, h4⟩ := h
  refine ⟨⟨hl, ?_⟩, ps, ⟨k1, fun k r p hr hp => ?_, k3⟩, fun p hp => ⟨(h3 p hp).1, Nat.le_trans (h3 p hp).2 hs⟩, h4⟩
  · rcases h1 with h | ⟨g, cap, cur, hv, hg, hh, r⟩
    · exact .inl h
    · exact .inr ⟨g, cap, cur, hv, hg, (hk g hg (Array.getElem?_eq_some_iff.1 hh).1).trans hh, r⟩
  · obtain ⟨f1, f2⟩ := k2 k r p hr hp
    refine ⟨?_, f2⟩
    have hp3 := h3 p (List.mem_of_getElem? hp)
    rcases f1 with h | ⟨g, cs, hA, g1, g2, hw, g3, g4⟩
    · exact .inl h
    · exact .inr ⟨g, cs, hA, g1, g2, (hk g (by omega) hw.lt).trans hw, g3, g4⟩
/-- A list of lists that is written through a pointer to block og; all of it lies from lo on. -/
structure LookAt (og lo : Nat) (wb w : World) (A : Option Addr) (c : Nat) (rs : List RowV) : Prop where
  cell : Whole w og 28 #[.slice A rs.length c]
  heads : Heads w lo A c rs
  below : Below og wb w
  og_lo : og < lo
  lo_sz : lo ≤ w.heap.size
theorem LookAt.later {og lo : Nat} {wb w w' : World} {A : Option Addr} {c : Nat} {rs : List RowV} (h : LookAt og lo wb w A c rs) (hb : Below w.heap.size w w') : LookAt og lo wb w' A c rs :=
  ⟨h.cell.below hb, h.heads.below hb, h.below.trans (hb.mono (Nat.le_of_lt h.cell.lt)), h.og_lo, Nat.le_trans h.lo_sz hb.size⟩
theorem LookAt.own_lt {og lo : Nat} {wb w : World} {A : Option Addr} {c : Nat} {rs : List RowV} (h : LookAt og lo wb w A c rs) : ∀ a, A = some a → lo ≤ a.block ∧ a.block < w.heap.size := fun a e => by
  subst e
  exact h.heads.1.lt a.block rfl
theorem LookAt.keep {og lo : Nat} {wb w w4 : World} {A : Option Addr} {c : Nat} {rs : List RowV} {o : Obj} (h : LookAt og lo wb w A c rs) (hg : (w.alloc o).grownBy w4 (Value.slice A rs.length c).ownBlock) : ∀ k, k < w.heap.size → (∀ a, A = some a → a.block ≠ k) → w4.heap[k]? = w.heap[k]? := fun k hk hne =>
  (hg.block k (by simp; omega) (fun e => by
    cases A with
    | none => simp [Value.ownBlock] at e
    | some a => exact hne a rfl (by simpa [Value.ownBlock, eq_comm] using e))).trans (Below.heap_alloc w _ k hk)
theorem LookAt.grown {og lo : Nat} {wb w w4 : World} {A : Option Addr} {c : Nat} {rs : List RowV} {o : Obj} (h : LookAt og lo wb w A c rs) (hg : (w.alloc o).grownBy w4 (Value.slice A rs.length c).ownBlock) : Whole w4 og 28 #[.slice A rs.length c] :=
  (h.keep hg og h.cell.lt (fun a e => by have := h.own_lt a e; have := h.og_lo; omega)).trans h.cell
/-- A new row outlives what turns the list alone. -/
theorem Fresh.turned {og : Nat} {A B : Option Addr} {w0 w w' : World} {ty : TypeId} {xs : List Value} (hf : Fresh w w0.heap.size w.heap.size ty B xs) (ho : og < w0.heap.size) (hA : ∀ a, A = some a → a.block < w0.heap.size ∨ w.heap.size ≤ a.block) (h : Turned og A w w') : Fresh w' w0.heap.size w'.heap.size ty B xs := by
  rcases hf with h0 | ⟨g, cs, hB, g1, g2, hw, g3, g4⟩
  · exact .inl h0
  · refine .inr ⟨g, cs, hB, g1, Nat.lt_of_lt_of_le g2 h.size, (h.block g g2 (by omega) fun a e => ?_).trans hw, g3, g4⟩
    rcases hA a e with h | h <;> omega
end Go.Proofs.Ytkocompjjogciaa

namespace Go.Proofs.Ytkocompjjogciaa
open Go.RowKit

/-- What the search leaves behind. -/
def LookPost (P : List Int → Bool) (og lo : Nat) (wb : World) (A : Option Addr) (w : World) (n : Nat) (b : List Int) (rs : List RowV) (e : Ending) (w' : World) : Prop :=
  e = .returned (.tuple #[]) ∧ ∃ A' c' rs', LookAt og lo wb w' A' c' rs' ∧ rowNums rs' = rowNums rs ++ goOn P n b ∧ Turned og A w w' ∧ NewOr A A' w
/-- Do times fit all clues? -/
def allFit (cs : List Cl) (xs : List Int) : Bool := cs.all fun c => fitC c xs
theorem allFit_no {cs : List Cl} {xs : List Int} {k : Nat} (hk : k < cs.length) (h : fitC cs[k] xs = false) : allFit cs xs = false := List.all_eq_false.2 ⟨_, List.getElem_mem hk, by simp [h]⟩
theorem allFit_yes {cs : List Cl} {xs : List Int} (h : ∀ k (hk : k < cs.length), fitC cs[k] xs = true) : allFit cs xs = true := by
  rw [allFit, List.all_eq_true]
  intro x hx
  obtain ⟨k, hk, rfl⟩ := List.getElem_of_mem hx
  exact h k hk

set_option maxHeartbeats 3200000 in
set_option maxRecDepth 100000 in
theorem pzLook_leaf (p : Int) (CA : Option Addr) (cn cc : Nat) (cs : List Cl) (wb : World) (og lo : Nat) (hog : wb.heap.size = og) (hCA : Holds wb CA (clsC cs)) (hcn : cs.length = cn) (hc6 : cn ≤ 6) (hok : cs.all (clOk p) = true)
    (B : Option Addr) (bn bc : Nat) (b : List Int) (w w0 : World) (A : Option Addr) (c : Nat) (rs : List RowV) (hl : LookAt og lo wb w0 A c rs) (hb : Below w0.heap.size w0 w) (hf : Fresh w w0.heap.size w.heap.size 3 B (nums b)) (hbn : b.length = bn) (hp : p = bn) (hh : hidI b = true) (hcnt : rs.length + (goOn (allFit cs) 0 b).length ≤ 10000) :
    Calls Try.prog 178 #[.int .i64 p, .slice CA cn cc, .slice B bn bc, .pointer (some ⟨og, 0, none⟩)] w (LookPost (allFit cs) og lo wb A w 0 b rs) := by
  subst hcn
  obtain ⟨i0, hi, hz0, hz1, hz2⟩ := info_parts info_row
  have HI := Lib.hid hi
  have HZ0 := Lib.hid hz0
  have HZ1 := Lib.hid hz1
  have HZ2 := Lib.hid hz2
  have HL := Lib.hid (hl.later hb)
  have HL0 := Lib.hid hl
  have HB := Lib.hid hb
  have HF := Lib.hid hf
  have HBN := Lib.hid hbn
  have HOK := Lib.hid (List.all_eq_true.1 hok)
  have HCL := Lib.hid (fun (W : World) (h : Below og wb W) => (hCA.below (by rw [hog]; exact h) : Holds W CA (clsC cs)))
  have HPN := Lib.hid hp
  have hpp : ((bn : Int) == p) = true := by simp [hp]
  clear hi hz0 hz1 hz2 hl hb hf hbn hok hCA hp
  go_enter Try.func178, Try.ntmps178
  go_wp2
  go_loopw [18] (fun i wr => ∃ k : Nat, i = .int .i64 k ∧ k ≤ cs.length ∧ Below w.heap.size w wr ∧ ∀ j (h : j < cs.length), j < k → fitC cs[j] b = true) (fun i _ => cs.length - (intOf i).toNat)
  case atStart => exact ⟨0, rfl, by omega, Below.refl _ _, fun j h1 h2 => absurd h2 (by omega)⟩
  case round =>
    obtain ⟨k, rfl, hk, hbr, hall⟩ := hrel
    have HALL := Lib.hid hall
    have HBR := Lib.hid hbr
    have HLR := Lib.hid (HL.out.later hbr)
    clear hall
    by_cases hlt : k < cs.length
    · obtain ⟨g, o, hCAe, hg, c0, c1, c2⟩ := cls_look (HCL.out _ HLR.out.below) hlt
      subst hCAe
      obtain ⟨⟨x1, x2, x3⟩, hx⟩ : ∃ x, x = cs[k] := ⟨_, rfl⟩
      rw [← hx] at c0 c1 c2
      dsimp only at c0 c1 c2
      have HCK : Hid (clOk p (x1, x2, x3) = true) := by show _ = _; rw [hx]; exact HOK.out _ (List.getElem_mem hlt)
      have hkl : (k : Int) < cs.length := by omega
      have hb1 : Below w.heap.size w (wr.alloc (.cells #[.int .i64 x1, .int .i64 x2, .int .i64 x3] 87)) := hbr.alloc hbr.size _
      have HB1 := Lib.hid hb1
      have hH1 := HF.out.holds.below hb1
      have HH1 := Lib.hid hH1
      cases hfit : fitC (x1, x2, x3) b
      · have HP2 := Lib.hid (allFit_no (cs := cs) (xs := b) hlt (by rw [← hx]; exact hfit))
        have HFIT := Lib.hid hfit
        clear hx hfit hbr hb1 hH1
        go_wp2_with fail
        refine (pzFits_any p x1 x2 x3 B bn bc b _ HH1.out HBN.out hh HCK.out HPN.out).mono ?_
        rintro e w2 ⟨rfl, hb2⟩
        rw [HFIT.out]
        have HF2 := Lib.hid (HB1.out.trans (hb2.mono HB1.out.size))
        clear hb2
        go_wp2
        go_end0
        exact ⟨rfl, A, c, rs, HL.out.later HF2.out, by simp [goOn, HP2.out], Turned.of_below HF2.out, NewOr.refl _ _⟩
      · have HFIT := Lib.hid hfit
        have HX := Lib.hid hx
        clear hx hfit hbr hb1 hH1
        go_wp2_with fail
        refine (pzFits_any p x1 x2 x3 B bn bc b _ HH1.out HBN.out hh HCK.out HPN.out).mono ?_
        rintro e w2 ⟨rfl, hb2⟩
        rw [HFIT.out]
        have HF2 := Lib.hid (HB1.out.trans (hb2.mono HB1.out.size))
        clear hb2
        go_wp2
        go_roundw
        case rel => exact ⟨k + 1, by go_num, by omega, HF2.out, fun j h1 h2 => by
          rcases Nat.lt_or_ge j k with h3 | h3
          · exact HALL.out j h1 h3
          · obtain rfl : j = k := by omega
            rw [← HX.out]; exact HFIT.out⟩
        case measure => simp [intOf]; omega
    · have hyes := allFit_yes (cs := cs) (xs := b) fun j hj => HALL.out j hj (by omega)
      have hg1 : goOn (allFit cs) 0 b = [b] := by simp [goOn, hyes]
      rw [hg1] at hcnt
      have HG := Lib.hid hg1
      have hcell := HLR.out.cell
      have c0 := hcell.cells1
      have hlo := HLR.out.og_lo
      have hogl := hcell.lt
      have HOWN := Lib.hid ((HLR.out.heads.alloc (.cells #[.slice B bn bc] 22)).1)
      have hal : rs.length + 1 ≤ 10000 := by simpa using hcnt
      have HMAX := Lib.hid (show rs.length + 1 ≤ maxLen by unfold maxLen; omega)
      have HBYT := Lib.hid (show (rs.length + 1) * 24 ≤ 140737488355328 by omega)
      have HBASE := Lib.hid (show lo ≤ (wr.alloc (.cells #[.slice B bn bc] 22)).heap.size by have := HLR.out.lo_sz; simp; omega)
      clear hcell hyes hg1 hcnt hbr
      go_wp2_with (at_builtin; refine wpList_append_lies _ rfl (.tmp 30) (.tmp 32) 28 rfl lo 22 i0 (.slice none 0 0) 1 24 Try.underlying28 HI.out HZ0.out HZ1.out HZ2.out rfl (by decide) (.slice A rs.length c) rs.length (rowVals rs) rfl HOWN.out ⟨wr.heap.size, 0, none⟩ 1 1 [.slice B bn bc] rfl rfl (cell_one_new _ _ _) (by simp [Value.oneCell']) (by decide) HMAX.out HBYT.out HBASE.out (wr.heap.size + 1) (by simp) ?_; intro g cap w4 hown4 hg4 hat hlt4; have hcell4 := HLR.out.grown hg4; have c4 := hcell4.cells1; have f4 := hcell4.open_ 0; have hl4 := hcell4.lt; clear c0)
      have hobk : ∀ q, (Value.slice A rs.length c).ownBlock = some q → ∃ a : Addr, A = some a ∧ a.block = q ∧ lo ≤ q ∧ q < wr.heap.size := fun q hq => by
        cases A with
        | none => simp [Value.ownBlock] at hq
        | some a =>
          have hq2 : a.block = q := by simpa [Value.ownBlock] using hq
          have := HLR.out.own_lt a rfl
          exact ⟨a, rfl, hq2, by omega, by omega⟩
      have hkeep := HLR.out.keep hg4
      have HP := Lib.hid (Heads.push (r := ⟨B, bn, bc, b⟩) HL0.out.heads HL0.out.lo_sz (HB.out.trans (HBR.out.mono HB.out.size)) ((HF.out.below HBR.out).more (Nat.le_refl _) HBR.out.size) HBN.out (by have := hidI_parts hh; have := HBN.out; show bn ≤ _; omega) hown4 hg4 hat)
      have hset := hcell4.set_ 0 (.slice (some ⟨g, 0, none⟩) (rs.length + 1) cap)
      have HSET := Lib.hid hset
      have hws : w.heap.size ≤ wr.heap.size := HBR.out.size
      have hsz4 : wr.heap.size ≤ w4.heap.size := by have := hg4.size; simp at this; omega
      have HB4 := Lib.hid (((HLR.out.below.alloc (Nat.le_of_lt hogl) (.cells #[.slice B bn bc] 22)).grown hg4 (by simp; omega) (fun kk e => by obtain ⟨a, -, -, h5, -⟩ := hobk kk e; omega)))
      have HKEEP := Lib.hid hkeep
      have HAT := Lib.hid (show ∀ a', (some ⟨g, 0, none⟩ : Option Addr) = some a' → (∃ a, A = some a ∧ a.block = a'.block) ∨ w.heap.size ≤ a'.block from fun a' e => by
        obtain rfl := Option.some.inj e
        rcases hat with h | h
        · obtain ⟨a, ha, hq, -⟩ := hobk g h
          exact .inl ⟨a, ha, hq⟩
        · exact .inr (by show w.heap.size ≤ g; omega))
      clear hobk hkeep hcell4 hown4 hg4 hat hset
      try go_wp2
      first | go_end0 | refine bodyPost_ret (results_none rfl _ _ _) rfl ?_
      refine ⟨rfl, some ⟨g, 0, none⟩, cap, rs ++ [⟨B, bn, bc, b⟩], ⟨?_, ?_, ?_, hlo, ?_⟩, ?_, ⟨?_, ?_⟩, HAT.out⟩
      · rw [List.length_append]; exact HSET.out
      · exact HP.out.same (by simp [World.setCell]) fun k hk _ => Below.heap_setCell _ _ _ _ (by show k ≠ og; omega)
      · exact below_set HB4.out (Nat.le_refl _)
      · have := HLR.out.lo_sz; simp [World.setCell]; omega
      · rw [HG.out]; simp [rowNums]
      · simp [World.setCell]; omega
      · exact fun k hk ho ha => ((Below.heap_setCell _ _ _ _ (by show k ≠ og; exact ho)).trans (HKEEP.out k (by omega) ha)).trans (HBR.out.block k hk)
end Go.Proofs.Ytkocompjjogciaa

namespace Go.Proofs.Ytkocompjjogciaa
open Go.RowKit

set_option maxHeartbeats 1600000 in
theorem notFit_any (p k a b : Int) (T : Option Addr) (tn tc : Nat) (xs : List Int) (tb : Nat) (w : World) (hb : Whole w tb 22 #[.slice T tn tc]) (hT : Holds w T (nums xs)) (hx : xs.length = tn) (hh : hidI xs = true) (hc : clOk p (k, a, b) = true) (hp : p = tn) :
    Calls Try.prog 196 #[.agg #[.int .i64 k, .int .i64 a, .int .i64 b], .pointer (some ⟨tb, 0, none⟩)] w fun e w' => e = .returned (.bool (!fitC (k, a, b) xs)) ∧ Below w.heap.size w w' := by
  have hbl := below1 w (.cells #[.int .i64 k, .int .i64 a, .int .i64 b] 87)
  have HBL := Lib.hid hbl
  have HT := Lib.hid (hT.below hbl)
  have c0 := (hb.below hbl).cells1
  have htl := hb.lt
  have ct := hb.cells1
  have HX := Lib.hid hx
  have HC := Lib.hid hc
  have HP := Lib.hid hp
  clear hbl hT hx hc hp hb
  go_enter Try.func196, Try.ntmps196
  go_wp2_with fail
  refine (fits_any p k a b T tn tc xs _ HT.out HX.out hh HC.out HP.out).mono ?_
  rintro e w2 ⟨rfl, hb2⟩
  have HF := Lib.hid (below_then HBL.out hb2 HBL.out.size)
  clear hb2
  go_wp2
  go_ret
  exact ⟨rfl, HF.out⟩

set_option maxHeartbeats 3200000 in
theorem indexC_any (p : Int) (A : Option Addr) (n c : Nat) (cs : List Cl) (T : Option Addr) (tn tc : Nat) (xs : List Int) (tb : Nat) (w : World) (hA : Holds w A (clsC cs)) (hcn : cs.length = n) (hn : n ≤ 1048576) (hb : Whole w tb 22 #[.slice T tn tc]) (hT : Holds w T (nums xs)) (hx : xs.length = tn) (hh : hidI xs = true) (hok : cs.all (clOk p) = true) (hp : p = tn) :
    Calls Try.prog 205 #[.slice A n c, .func (.func 196) #[] #[.pointer (some ⟨tb, 0, none⟩)]] w fun e w' => ∃ r : Int, e = .returned (.int .i64 r) ∧ decide (0 ≤ r) = !allFit cs xs ∧ Below w.heap.size w w' := by
  subst hcn
  have HA := Lib.hid hA
  have HBX := Lib.hid hb
  have HT := Lib.hid hT
  have HX := Lib.hid hx
  have HOK := Lib.hid (List.all_eq_true.1 hok)
  have HP := Lib.hid hp
  clear hA hb hT hx hok hp
  go_enter Try.func205, Try.ntmps205
  go_wp2
  go_loopw [8] (fun i wr => ∃ k : Nat, k ≤ cs.length ∧ i = .int .i64 k ∧ (∀ j (h : j < cs.length), j < k → fitC cs[j] xs = true) ∧ Below w.heap.size w wr) (fun i _ => cs.length - (intOf i).toNat)
  case atStart => exact ⟨0, Nat.zero_le _, rfl, fun j h1 h2 => absurd h2 (by omega), Below.refl _ _⟩
  case round =>
    obtain ⟨k, hk, rfl, hall, hb⟩ := hrel
    have HALL := Lib.hid hall
    have HB := Lib.hid hb
    clear hall
    by_cases hlt : k < cs.length
    · obtain ⟨g, o, rfl, hg, c0, c1, c2⟩ := cls_look (HA.out.below hb) hlt
      obtain ⟨⟨x1, x2, x3⟩, hx⟩ : ∃ x, x = cs[k] := ⟨_, rfl⟩
      rw [← hx] at c0 c1 c2
      dsimp only at c0 c1 c2
      have HCK : Hid (clOk p (x1, x2, x3) = true) := by show _ = _; rw [hx]; exact HOK.out _ (List.getElem_mem hlt)
      have hkl : (k : Int) < cs.length := by omega
      have HBX2 := Lib.hid (HBX.out.below hb)
      have HT2 := Lib.hid (HT.out.below hb)
      cases hfit : fitC (x1, x2, x3) xs
      · have HP2 := Lib.hid (allFit_no (cs := cs) (xs := xs) hlt (by rw [← hx]; exact hfit))
        have HFIT := Lib.hid hfit
        clear hx hfit hb
        go_wp2_with fail
        refine (notFit_any p x1 x2 x3 T tn tc xs tb _ HBX2.out HT2.out HX.out hh HCK.out HP.out).mono ?_
        rintro e w2 ⟨rfl, hb2⟩
        rw [HFIT.out]
        have HF := Lib.hid (below_then HB.out hb2 HB.out.size)
        clear hb2
        go_wp2
        go_ret
        exact ⟨_, rfl, by rw [HP2.out]; simp, HF.out⟩
      · have HFIT := Lib.hid hfit
        have HX2 := Lib.hid hx
        clear hx hfit hb
        go_wp2_with fail
        refine (notFit_any p x1 x2 x3 T tn tc xs tb _ HBX2.out HT2.out HX.out hh HCK.out HP.out).mono ?_
        rintro e w2 ⟨rfl, hb2⟩
        rw [HFIT.out]
        have HF := Lib.hid (below_then HB.out hb2 HB.out.size)
        clear hb2
        go_wp2
        go_roundw
        case rel => exact ⟨k + 1, by omega, by go_num, fun j h1 h2 => by
          rcases Nat.lt_or_ge j k with h3 | h3
          · exact HALL.out j h1 h3
          · obtain rfl : j = k := by omega
            rw [← HX2.out]; exact HFIT.out, HF.out⟩
        case measure => simp [intOf]; omega
    · have HP2 := Lib.hid (allFit_yes (cs := cs) (xs := xs) fun j hj => HALL.out j hj (by omega))
      clear hb
      go_wp2
      go_ret
      exact ⟨_, rfl, by rw [HP2.out]; rfl, HB.out⟩

set_option maxHeartbeats 800000 in
theorem containsC_any (p : Int) (A : Option Addr) (n c : Nat) (cs : List Cl) (T : Option Addr) (tn tc : Nat) (xs : List Int) (tb : Nat) (w : World) (hA : Holds w A (clsC cs)) (hcn : cs.length = n) (hn : n ≤ 1048576) (hb : Whole w tb 22 #[.slice T tn tc]) (hT : Holds w T (nums xs)) (hx : xs.length = tn) (hh : hidI xs = true) (hok : cs.all (clOk p) = true) (hp : p = tn) :
    Calls Try.prog 195 #[.slice A n c, .func (.func 196) #[] #[.pointer (some ⟨tb, 0, none⟩)]] w fun e w' => e = .returned (.bool (!allFit cs xs)) ∧ Below w.heap.size w w' := by
  have H := Lib.hid (indexC_any p A n c cs T tn tc xs tb w hA hcn hn hb hT hx hh hok hp)
  clear hA hb hT hx hok hp
  go_enter Try.func195, Try.ntmps195
  go_wp2_with fail
  refine H.out.mono ?_
  rintro e w2 ⟨r, rfl, hr, hb2⟩
  have HR := Lib.hid hr
  clear hr
  go_wp2
  go_ret
  exact ⟨ret_of (by rw [← HR.out]; rfl), hb2⟩
end Go.Proofs.Ytkocompjjogciaa

namespace Go.Proofs.Ytkocompjjogciaa
open Go.RowKit

/-- What is known where the search goes on with n more times. -/
def LookAll (p : Int) (CA : Option Addr) (cn cc : Nat) (cs : List Cl) (wb : World) (og lo n : Nat) : Prop :=
  ∀ (B : Option Addr) (bn bc : Nat) (b : List Int) (w w0 : World) (A : Option Addr) (c : Nat) (rs : List RowV), LookAt og lo wb w0 A c rs → Below w0.heap.size w0 w → Fresh w w0.heap.size w.heap.size 3 B (nums b) → b.length = bn → p = bn + n → BegL b → (B = none → bc = 0) → rs.length + (goOn (allFit cs) n b).length ≤ 10000 →
    Calls Try.prog 178 #[.int .i64 p, .slice CA cn cc, .slice B bn bc, .pointer (some ⟨og, 0, none⟩)] w (LookPost (allFit cs) og lo wb A w n b rs)

set_option maxHeartbeats 3200000 in
set_option maxRecDepth 100000 in
theorem pzLook_step (p : Int) (CA : Option Addr) (cn cc : Nat) (cs : List Cl) (wb : World) (og lo n : Nat) (hp4 : p ≤ 4) (IH : LookAll p CA cn cc cs wb og lo n) : LookAll p CA cn cc cs wb og lo (n + 1) := by
  intro B bn bc b w w0 A c rs hl hb hf hbn hp hbeg hnil hcnt
  obtain ⟨i0, hi, hz0, hz1, hz2⟩ := info_parts info_int
  have HI := Lib.hid hi
  have HZ0 := Lib.hid hz0
  have HZ1 := Lib.hid hz1
  have HZ2 := Lib.hid hz2
  have HL := Lib.hid (hl.later hb)
  have HL0 := Lib.hid hl
  have HB := Lib.hid hb
  have HF := Lib.hid hf
  have HBN := Lib.hid hbn
  have HBEG := Lib.hid hbeg
  have HNIL := Lib.hid hnil
  have HIH := Lib.hid IH
  have hbn4 : bn ≤ 3 := by omega
  have hpp : ((bn : Int) == p) = false := by simp; omega
  have HPN := Lib.hid hp
  have HCNT := Lib.hid hcnt
  obtain ⟨hf1, hf6⟩ := fromL_bd hbeg
  have hog0 : og < w0.heap.size := Nat.lt_of_lt_of_le hl.og_lo hl.lo_sz
  have hAlt : ∀ a, A = some a → a.block < w0.heap.size := fun a e => (hl.own_lt a e).2
  have HOG0 := Lib.hid hog0
  have HALT := Lib.hid hAlt
  obtain ⟨fr, hfr⟩ : ∃ fr, fr = fromL b := ⟨_, rfl⟩
  have HGO : Hid (goOn (allFit cs) (n + 1) b = tailT (goOn (allFit cs) n) b (7 - fr).toNat) := by show _ = _; rw [hfr]; rfl
  rw [← hfr] at hf1 hf6
  have HFR := Lib.hid hfr
  by_cases hb0 : b = []
  · have e0 : bn = 0 := by rw [← hbn, hb0]; rfl
    have hbz : ¬ (0 : Int) < bn := by omega
    have hfr1 : fr = 1 := by rw [hfr, hb0]; rfl
    have HN1 := Lib.hid hfr1
    clear hi hz0 hz1 hz2 hl hb hp hcnt hog0 hAlt IH hbeg hnil hf hbn hfr e0 hb0
    go_enter Try.func178, Try.ntmps178
    go_wp2_with fail
    go_loopw [11] (fun i wr => ∃ (j : Nat) (A1 : Option Addr) (c1 : Nat) (rs1 : List RowV), i = .int .i64 (7 - (j : Int)) ∧ j ≤ 6 ∧ fr ≤ 7 - (j : Int) ∧ LookAt og lo wb wr A1 c1 rs1 ∧ rowNums rs1 ++ tailT (goOn (allFit cs) n) b j = rowNums rs ++ goOn (allFit cs) (n + 1) b ∧ Turned og A w wr ∧ NewOr A A1 w) (fun i _ => (7 - intOf i).toNat)
    case atStart => exact ⟨(7 - fr).toNat, A, c, rs, congrArg _ (by omega), by omega, by omega, HL.out, by rw [HGO.out], Turned.refl _ _ _, NewOr.refl _ _⟩
    case round =>
      obtain ⟨j, A1, c1, rs1, rfl, hj, hjf, hl1, heq, htu, hno⟩ := hrel
      by_cases hj0 : 0 < j
      · obtain ⟨m, rfl⟩ : ∃ m, j = m + 1 := ⟨j - 1, by omega⟩
        obtain ⟨t, ht⟩ : ∃ t : Int, t = 6 - (m : Int) := ⟨_, rfl⟩
        have ht7 : (7 : Int) - ((m + 1 : Nat) : Int) = t := by omega
        have heq2 : rowNums rs1 ++ (goOn (allFit cs) n (b ++ [t]) ++ tailT (goOn (allFit cs) n) b m) = rowNums rs ++ goOn (allFit cs) (n + 1) b := by rw [ht]; exact heq
        have hlen := congrArg List.length heq2
        simp only [List.length_append, rowNums_len] at hlen
        have HC1 := Lib.hid (show rs1.length + (goOn (allFit cs) n (b ++ [t])).length ≤ 10000 by have := HCNT.out; omega)
        have HEQ := Lib.hid heq2
        have hfw := HF.out.turned HOG0.out (fun a e => .inl (HALT.out a e)) htu
        have HFW := Lib.hid hfw
        have HL1 := Lib.hid hl1
        have HTU := Lib.hid htu
        have HNO := Lib.hid hno
        have ht6 : t ≤ 6 := by omega
        have htf : fr ≤ t := by omega
        rw [ht7]
        clear heq heq2 hlen hfw hl1 htu hno hjf
        have HT := Lib.hid ht
        have HT7 := Lib.hid ht7
        clear ht ht7
        go_wp2_with fail
        refine (l1Own_any B bn bc b _ HFW.out.holds HBN.out (by omega) HNIL.out).mono ?_
        rintro e w3 ⟨A2, q2, rfl, hown2, hb2⟩
        rw [HBN.out] at hown2 ⊢
        have hs2 : wr.heap.size ≤ w3.heap.size := hb2.size
        have HO2 := Lib.hid (hown2.alloc (.cells #[.int .i64 t] 3))
        have HB3 := Lib.hid (hb2.alloc hs2 (.cells #[.int .i64 t] 3))
        have HMAX := Lib.hid (show bn + 1 ≤ maxLen by unfold maxLen; omega)
        have HBYT := Lib.hid (show (bn + 1) * 8 ≤ 140737488355328 by omega)
        have HBASE := Lib.hid (show wr.heap.size ≤ (w3.alloc (.cells #[.int .i64 t] 3)).heap.size by simp; omega)
        clear hown2 hb2 hs2
        go_wp2_with (at_builtin; refine wpList_append_lies _ rfl (.tmp 52) (.tmp 54) 22 rfl wr.heap.size 3 i0 (.int .i64 0) 1 8 Try.underlying22 HI.out HZ0.out HZ1.out HZ2.out rfl (by decide) (.slice A2 bn q2) bn (nums b) rfl HO2.out ⟨w3.heap.size, 0, none⟩ 1 1 [.int .i64 t] rfl rfl (cell_one_new _ _ _) (by simp [Value.oneCell']) (by decide) HMAX.out HBYT.out HBASE.out (w3.heap.size + 1) (by simp) ?_; intro g cap w4 hown4 hg4 hat hlt4)
        have HB4 := Lib.hid (HB3.out.grown hg4 HBASE.out (fun kk e => (HO2.out.lt kk e).1))
        have hnum : nums b ++ [.int .i64 t] = nums (b ++ [t]) := by simp [nums]
        rw [hnum] at hown4
        obtain ⟨A5, c5, hv5, hf5⟩ := Fresh.of_own hown4 (Nat.le_refl _)
        simp only [Value.slice.injEq, true_and] at hv5
        obtain ⟨rfl, rfl⟩ := hv5
        have HF5 := Lib.hid hf5
        clear hown4 hg4 hat hnum hf5
        refine (HIH.out (some ⟨g, 0, none⟩) (bn + 1) cap (b ++ [t]) w4 wr A1 c1 rs1 HL1.out HB4.out HF5.out (by simp [HBN.out]) (by have := HPN.out; omega) (begL_snoc HBEG.out (by rw [← HFR.out]; omega) ht6) (fun h => by cases h) HC1.out).mono ?_
        rintro e w5 ⟨rfl, A6, c6, rs6, hl6, hr6, htu6, hno6⟩
        have HL6 := Lib.hid hl6
        have HR6 := Lib.hid hr6
        have HTU6 := Lib.hid ((HTU.out.trans HNO.out (Turned.of_below HB4.out)).trans HNO.out htu6)
        have HNO6 := Lib.hid (HNO.out.trans (Nat.le_trans HTU.out.size HB4.out.size) hno6)
        clear hl6 hr6 htu6 hno6 hlt4
        go_wp2
        go_roundw
        case rel => exact ⟨m, A6, c6, rs6, congrArg _ (by have := HT.out; omega), by omega, by have := HT.out; omega, HL6.out, by rw [HR6.out, List.append_assoc]; exact HEQ.out, HTU6.out, HNO6.out⟩
        case measure => have := HT.out; simp [intOf]; omega
      · obtain rfl : j = 0 := by omega
        have HEQ : Hid (rowNums rs1 = rowNums rs ++ goOn (allFit cs) (n + 1) b) := by show _ = _; rw [← heq]; simp [tailT]
        have HL1 := Lib.hid hl1
        have HTU := Lib.hid htu
        have HNO := Lib.hid hno
        clear heq hl1 htu hno
        go_wp2
        go_end0
        exact ⟨rfl, A1, c1, rs1, HL1.out, HEQ.out, HTU.out, HNO.out⟩
  · have e0 : 0 < bn := by rw [← hbn]; exact List.length_pos_iff.2 hb0
    have hbz : (0 : Int) < bn := by omega
    have hbd : decide (0 < bn) = true := decide_eq_true e0
    obtain ⟨q, hq⟩ : ∃ q, q + 1 = bn := ⟨bn - 1, by omega⟩
    have hql : q < b.length := by omega
    obtain ⟨g0, o0, rfl, hgl, hc⟩ := hf.holds.look (k := q) (by rw [nums_len]; exact hql)
    simp only [nums, List.getElem_map] at hc
    rw [← fromL_last (by omega), ← hfr] at hc
    have hqm : (bn : Int) - 1 = q := by omega
    have hqw : IntKind.i64.wrap ((bn : Int) - 1) = q := by rw [hqm]; exact IntWalk.i64_in _ (by omega)
    have hq0 : (q : Int) < bn := by omega
    clear hi hz0 hz1 hz2 hl hb hp hcnt hog0 hAlt IH hbeg hnil hf hbn hfr e0 hb0 hq hql
    go_enter Try.func178, Try.ntmps178
    go_wp2_with fail
    clear hqm hqw hq0 hc
    go_loopw [11] (fun i wr => ∃ (j : Nat) (A1 : Option Addr) (c1 : Nat) (rs1 : List RowV), i = .int .i64 (7 - (j : Int)) ∧ j ≤ 6 ∧ fr ≤ 7 - (j : Int) ∧ LookAt og lo wb wr A1 c1 rs1 ∧ rowNums rs1 ++ tailT (goOn (allFit cs) n) b j = rowNums rs ++ goOn (allFit cs) (n + 1) b ∧ Turned og A w wr ∧ NewOr A A1 w) (fun i _ => (7 - intOf i).toNat)
    case atStart => exact ⟨(7 - fr).toNat, A, c, rs, congrArg _ (by omega), by omega, by omega, HL.out, by rw [HGO.out], Turned.refl _ _ _, NewOr.refl _ _⟩
    case round =>
      obtain ⟨j, A1, c1, rs1, rfl, hj, hjf, hl1, heq, htu, hno⟩ := hrel
      by_cases hj0 : 0 < j
      · obtain ⟨m, rfl⟩ : ∃ m, j = m + 1 := ⟨j - 1, by omega⟩
        obtain ⟨t, ht⟩ : ∃ t : Int, t = 6 - (m : Int) := ⟨_, rfl⟩
        have ht7 : (7 : Int) - ((m + 1 : Nat) : Int) = t := by omega
        have heq2 : rowNums rs1 ++ (goOn (allFit cs) n (b ++ [t]) ++ tailT (goOn (allFit cs) n) b m) = rowNums rs ++ goOn (allFit cs) (n + 1) b := by rw [ht]; exact heq
        have hlen := congrArg List.length heq2
        simp only [List.length_append, rowNums_len] at hlen
        have HC1 := Lib.hid (show rs1.length + (goOn (allFit cs) n (b ++ [t])).length ≤ 10000 by have := HCNT.out; omega)
        have HEQ := Lib.hid heq2
        have hfw := HF.out.turned HOG0.out (fun a e => .inl (HALT.out a e)) htu
        have HFW := Lib.hid hfw
        have HL1 := Lib.hid hl1
        have HTU := Lib.hid htu
        have HNO := Lib.hid hno
        have ht6 : t ≤ 6 := by omega
        have htf : fr ≤ t := by omega
        rw [ht7]
        clear heq heq2 hlen hfw hl1 htu hno hjf
        have HT := Lib.hid ht
        have HT7 := Lib.hid ht7
        clear ht ht7
        go_wp2_with fail
        refine (l1Own_any (some ⟨g0, o0, none⟩) bn bc b _ HFW.out.holds HBN.out (by omega) HNIL.out).mono ?_
        rintro e w3 ⟨A2, q2, rfl, hown2, hb2⟩
        rw [HBN.out] at hown2 ⊢
        have hs2 : wr.heap.size ≤ w3.heap.size := hb2.size
        have HO2 := Lib.hid (hown2.alloc (.cells #[.int .i64 t] 3))
        have HB3 := Lib.hid (hb2.alloc hs2 (.cells #[.int .i64 t] 3))
        have HMAX := Lib.hid (show bn + 1 ≤ maxLen by unfold maxLen; omega)
        have HBYT := Lib.hid (show (bn + 1) * 8 ≤ 140737488355328 by omega)
        have HBASE := Lib.hid (show wr.heap.size ≤ (w3.alloc (.cells #[.int .i64 t] 3)).heap.size by simp; omega)
        clear hown2 hb2 hs2
        go_wp2_with (at_builtin; refine wpList_append_lies _ rfl (.tmp 52) (.tmp 54) 22 rfl wr.heap.size 3 i0 (.int .i64 0) 1 8 Try.underlying22 HI.out HZ0.out HZ1.out HZ2.out rfl (by decide) (.slice A2 bn q2) bn (nums b) rfl HO2.out ⟨w3.heap.size, 0, none⟩ 1 1 [.int .i64 t] rfl rfl (cell_one_new _ _ _) (by simp [Value.oneCell']) (by decide) HMAX.out HBYT.out HBASE.out (w3.heap.size + 1) (by simp) ?_; intro g cap w4 hown4 hg4 hat hlt4)
        have HB4 := Lib.hid (HB3.out.grown hg4 HBASE.out (fun kk e => (HO2.out.lt kk e).1))
        have hnum : nums b ++ [.int .i64 t] = nums (b ++ [t]) := by simp [nums]
        rw [hnum] at hown4
        obtain ⟨A5, c5, hv5, hf5⟩ := Fresh.of_own hown4 (Nat.le_refl _)
        simp only [Value.slice.injEq, true_and] at hv5
        obtain ⟨rfl, rfl⟩ := hv5
        have HF5 := Lib.hid hf5
        clear hown4 hg4 hat hnum hf5
        refine (HIH.out (some ⟨g, 0, none⟩) (bn + 1) cap (b ++ [t]) w4 wr A1 c1 rs1 HL1.out HB4.out HF5.out (by simp [HBN.out]) (by have := HPN.out; omega) (begL_snoc HBEG.out (by rw [← HFR.out]; omega) ht6) (fun h => by cases h) HC1.out).mono ?_
        rintro e w5 ⟨rfl, A6, c6, rs6, hl6, hr6, htu6, hno6⟩
        have HL6 := Lib.hid hl6
        have HR6 := Lib.hid hr6
        have HTU6 := Lib.hid ((HTU.out.trans HNO.out (Turned.of_below HB4.out)).trans HNO.out htu6)
        have HNO6 := Lib.hid (HNO.out.trans (Nat.le_trans HTU.out.size HB4.out.size) hno6)
        clear hl6 hr6 htu6 hno6 hlt4
        go_wp2
        go_roundw
        case rel => exact ⟨m, A6, c6, rs6, congrArg _ (by have := HT.out; omega), by omega, by have := HT.out; omega, HL6.out, by rw [HR6.out, List.append_assoc]; exact HEQ.out, HTU6.out, HNO6.out⟩
        case measure => have := HT.out; simp [intOf]; omega
      · obtain rfl : j = 0 := by omega
        have HEQ : Hid (rowNums rs1 = rowNums rs ++ goOn (allFit cs) (n + 1) b) := by show _ = _; rw [← heq]; simp [tailT]
        have HL1 := Lib.hid hl1
        have HTU := Lib.hid htu
        have HNO := Lib.hid hno
        clear heq hl1 htu hno
        go_wp2
        go_end0
        exact ⟨rfl, A1, c1, rs1, HL1.out, HEQ.out, HTU.out, HNO.out⟩

theorem pzLook_any (p : Int) (CA : Option Addr) (cn cc : Nat) (cs : List Cl) (wb : World) (og lo : Nat) (hog : wb.heap.size = og) (hCA : Holds wb CA (clsC cs)) (hcn : cs.length = cn) (hc6 : cn ≤ 6) (hok : cs.all (clOk p) = true) (hp1 : 1 ≤ p) (hp4 : p ≤ 4) : ∀ n, LookAll p CA cn cc cs wb og lo n
  | 0 => fun B bn bc b w w0 A c rs hl hb hf hbn hp hbeg _ hcnt => pzLook_leaf p CA cn cc cs wb og lo hog hCA hcn hc6 hok B bn bc b w w0 A c rs hl hb hf hbn (by omega) (begL_hid hbeg (by omega) (by omega)) hcnt
  | n + 1 => pzLook_step p CA cn cc cs wb og lo n hp4 (pzLook_any p CA cn cc cs wb og lo hog hCA hcn hc6 hok hp1 hp4 n)

/-- All hidden times of p people that fit some clues, in order. -/
def solI (p : Int) (cs : List Cl) : List (List Int) := goOn (allFit cs) p.toNat []
theorem solI_len {p : Int} (cs : List Cl) (hp1 : 1 ≤ p) (hp4 : p ≤ 4) : (solI p cs).length ≤ 1296 := by
  have h := goOn_len (allFit cs) p.toNat [] (fun y h => by cases h)
  have h4 : p.toNat ≤ 4 := by omega
  have : 6 ^ p.toNat ≤ 6 ^ 4 := Nat.pow_le_pow_right (by omega) h4
  unfold solI
  omega
/-- What a call hands back that makes a list of lists, with what lies in it. -/
def MadePost (ls : List (List Int)) (w : World) (e : Ending) (w' : World) : Prop :=
  ∃ (A : Option Addr) (c : Nat) (rs : List RowV), e = .returned (.slice A rs.length c) ∧ rowNums rs = ls ∧ Heads w' w.heap.size A c rs ∧ Below w.heap.size w w'

set_option maxHeartbeats 800000 in
theorem pzAll_any (p : Int) (CA : Option Addr) (cn cc : Nat) (cs : List Cl) (w : World) (hCA : Holds w CA (clsC cs)) (hcn : cs.length = cn) (hc6 : cn ≤ 6) (hok : cs.all (clOk p) = true) (hp1 : 1 ≤ p) (hp4 : p ≤ 4) :
    Calls Try.prog 163 #[.int .i64 p, .slice CA cn cc] w (MadePost (solI p cs) w) := by
  have hw0 := Whole.fresh w 28 #[.slice none 0 0]
  have hbl := below1 w (.cells #[.slice none 0 0] 28)
  have hlk : LookAt w.heap.size (w.heap.size + 1) w (w.alloc (.cells #[.slice none 0 0] 28)) none 0 [] := ⟨hw0, Heads.nil _ _, hbl, by omega, by simp⟩
  have HL := Lib.hid hlk
  have HALL := Lib.hid (pzLook_any p CA cn cc cs w w.heap.size (w.heap.size + 1) rfl hCA hcn hc6 hok hp1 hp4 p.toNat)
  have HCNT := Lib.hid (solI_len cs hp1 hp4)
  clear hw0 hbl hlk
  go_enter Try.func163, Try.ntmps163
  go_wp2_with fail
  refine (HALL.out none 0 0 [] _ _ none 0 [] HL.out (Below.refl _ _) (.inl rfl) rfl (by omega) begL_nil (fun _ => rfl) (by have := HCNT.out; show 0 + (solI p cs).length ≤ _; omega)).mono ?_
  rintro e w2 ⟨rfl, A2, c2, rs2, hl2, hr2, -, -⟩
  have c0 := hl2.cell.cells1
  have hlt := hl2.cell.lt
  have HL2 := Lib.hid hl2
  have HR2 : Hid (rowNums rs2 = solI p cs) := by show _ = _; rw [hr2]; rfl
  clear hl2 hr2
  go_wp2
  go_ret
  have hh := HL2.out.heads
  refine ⟨A2, c2, rs2, rfl, HR2.out, ⟨own_lower hh.1 (by omega), ?_⟩, HL2.out.below⟩
  obtain ⟨-, ps, f1, f2, f3⟩ := hh
  exact ⟨ps, f1, fun q hq => ⟨by have := (f2 q hq).1; omega, (f2 q hq).2⟩, f3⟩

/-- The solutions of a puzzle, none where it is none. -/
def solsI (p : Int) (cs : List Cl) : List (List Int) := if pzOk p cs then solI p cs else []
theorem solsI_yes {p : Int} {cs : List Cl} (h : pzOk p cs = true) : solsI p cs = solI p cs := if_pos h
theorem solsI_no {p : Int} {cs : List Cl} (h : pzOk p cs = false) : solsI p cs = [] := if_neg (by simp [h])
theorem pzOk_parts {p : Int} {cs : List Cl} (h : pzOk p cs = true) : 1 ≤ p ∧ p ≤ 4 ∧ cs.length ≤ 6 ∧ cs.all (clOk p) = true := by
  simp only [pzOk, Bool.and_eq_true, within_iff, decide_eq_true_eq] at h
  exact ⟨h.1.1, h.1.2, h.2.1, h.2.2⟩
end Go.Proofs.Ytkocompjjogciaa

namespace Go.Proofs.Ytkocompjjogciaa
open Go.RowKit

/-- Some of the rows that lie spread lie spread. -/
theorem pair_free {w : World} {ps : List (Nat × Nat)} {rs : List RowV} (h : FreeRows w ps rs) : (∀ y ∈ rs.zip ps, Fresh w y.2.1 y.2.2 3 y.1.A (nums y.1.xs) ∧ y.1.xs.length = y.1.n ∧ y.1.n ≤ 1048576) ∧ (rs.zip ps).Pairwise (fun a b => a.2.2 ≤ b.2.1 ∨ b.2.2 ≤ a.2.1) := by
  obtain ⟨h1, h2, h3⟩ := h
  refine ⟨fun y hy => ?_, ?_⟩
  · obtain ⟨k, hk, rfl⟩ := List.getElem_of_mem hy
    have hk' : k < rs.length ∧ k < ps.length := by have h9 := hk; rw [List.length_zip] at h9; omega
    have := h2 k rs[k] ps[k] (by simp [hk'.1]) (by simp [hk'.2])
    simpa using this
  · rw [List.pairwise_iff_getElem]
    intro i j hi hj hij
    have hi' : i < rs.length ∧ i < ps.length := by have h9 := hi; rw [List.length_zip] at h9; omega
    have hj' : j < rs.length ∧ j < ps.length := by have h9 := hj; rw [List.length_zip] at h9; omega
    have := h3 i j ps[i] ps[j] (by omega) (by simp [hi'.2]) (by simp [hj'.2])
    simpa using this
theorem of_pairs {w : World} {zs : List (RowV × (Nat × Nat))} (h1 : ∀ y ∈ zs, Fresh w y.2.1 y.2.2 3 y.1.A (nums y.1.xs) ∧ y.1.xs.length = y.1.n ∧ y.1.n ≤ 1048576) (h2 : zs.Pairwise (fun a b => a.2.2 ≤ b.2.1 ∨ b.2.2 ≤ a.2.1)) : FreeRows w (zs.map Prod.snd) (zs.map Prod.fst) := by
  refine ⟨by simp, fun k r p hr hp => ?_, fun i j p p' hne hp hp' => ?_⟩
  · rw [List.getElem?_map] at hr hp
    obtain ⟨y, hy, rfl⟩ := Option.map_eq_some_iff.1 hr
    rw [hy] at hp
    obtain rfl : y.2 = p := by simpa using hp
    exact h1 y (List.mem_of_getElem? hy)
  · rw [List.getElem?_map] at hp hp'
    obtain ⟨y, hy, rfl⟩ := Option.map_eq_some_iff.1 hp
    obtain ⟨y', hy', rfl⟩ := Option.map_eq_some_iff.1 hp'
    obtain ⟨hi, rfl⟩ := List.getElem?_eq_some_iff.1 hy
    obtain ⟨hj, rfl⟩ := List.getElem?_eq_some_iff.1 hy'
    rcases Nat.lt_or_gt_of_ne hne with h | h
    · exact List.pairwise_iff_getElem.1 h2 i j hi hj h
    · exact (List.pairwise_iff_getElem.1 h2 j i hj hi h).symm
theorem Heads.part_of {w wr : World} {lo c c' : Nat} {A D : Option Addr} {rs : List RowV} (f : RowV → Bool) (h : Heads w lo A c rs) (hb : Below w.heap.size w wr) (ho : wr.ownsRow w.heap.size 22 1 (.slice D (rs.filter f).length c') (rs.filter f).length (rowVals (rs.filter f))) (hl : lo ≤ w.heap.size) : Heads wr lo D c' (rs.filter f) := by
  obtain ⟨-, ps, hf, hp, -⟩ := h
  obtain ⟨h1, h2⟩ := pair_free hf
  have hz : ((rs.zip ps).filter (fun y => f y.1)).map Prod.fst = rs.filter f := by
    have h0 : (rs.zip ps).map Prod.fst = rs := by rw [List.map_fst_zip]; rw [hf.1]; exact Nat.le_refl _
    have h6 : rs.filter f = ((rs.zip ps).map Prod.fst).filter f := by rw [h0]
    rw [h6, List.filter_map]
    rfl
  have hfree : FreeRows w (((rs.zip ps).filter (fun y => f y.1)).map Prod.snd) (rs.filter f) := by
    rw [← hz]
    exact of_pairs (fun y hy => h1 y (List.mem_filter.1 hy).1) (h2.sublist List.filter_sublist)
  have hps : ∀ p ∈ ((rs.zip ps).filter (fun y => f y.1)).map Prod.snd, p ∈ ps := fun p hp => by
    obtain ⟨y, hy, rfl⟩ := List.mem_map.1 hp
    exact (List.of_mem_zip (List.mem_filter.1 hy).1).2
  refine ⟨own_lower ho hl, _, hfree.below hb, fun p hp' => ⟨(hp p (hps p hp')).1, Nat.le_trans (hp p (hps p hp')).2 hb.size⟩, fun a ha p hp' => .inr ?_⟩
  subst ha
  exact Nat.le_trans (hp p (hps p hp')).2 (ho.lt a.block rfl).1
end Go.Proofs.Ytkocompjjogciaa
