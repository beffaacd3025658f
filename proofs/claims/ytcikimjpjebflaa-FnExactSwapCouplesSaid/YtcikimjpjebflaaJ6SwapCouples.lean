/-
  What is proved: the contract of the model's SwapCouples. Conditions: the arguments are read as they lie.
  What is proved: the law FnExactSwapCouples returns true at every argument, and leaves all that was there as it was. Conditions: the arguments are read as they lie.
-/
import Derived.Deep.RegionHeld3
import Derived.Test.YtcikimjpjebflaaJ5SwapCouples
set_option linter.unusedSimpArgs false
set_option linter.unusedVariables false
namespace Go.Proofs.Ytcikimjpjebflaa
open Go.RowKit

theorem sw_mask_small {i j : Nat} {l : List Int} (hi : i < 4) (hj : j < 4) (hs : StepsTo l 7 l.length) (x : Nat) : maskOf ((l.map (swK i j)).take x) < 256 :=
  mask_lt (n := 8) (by decide) _ fun y hy => by
    obtain ⟨z, hz, rfl⟩ := List.mem_map.1 (List.mem_of_mem_take hy)
    have hm := mem_steps hs hz
    have := sw_range hi hj hm.1 hm.2
    show swK i j z < 8
    omega

set_option maxHeartbeats 12800000 in
set_option maxRecDepth 100000 in
theorem specSwap_any (a b i j : Int) (D : Option Addr) (n z : Nat) (rs : List RowV) (w : World) (hD : Grid w D rs) (hz : rs.length = n) (hn : n ≤ 9223372036854775807) :
    Calls Try.prog 50 #[.agg #[.int .i64 a, .int .i64 b], .slice D n z, .int .i64 i, .int .i64 j] w (BackPost (swLs a b i j (rowNums rs)) (okSw a b i j (rowNums rs)) w) := by
  obtain ⟨i0, hi0, hz0, hz1, hz2⟩ := info_parts info_row
  have HI := Lib.hid hi0
  have HZ0 := Lib.hid hz0
  have HZ1 := Lib.hid hz1
  have HZ2 := Lib.hid hz2
  have HZ := Lib.hid hz
  have HLS := Lib.hid (rowNums_len rs)
  have h0 := Whole.fresh w 61 #[.int .i64 a, .int .i64 b]
  have hbw := below1 w (.cells #[.int .i64 a, .int .i64 b] 61)
  have hD2 := hD.below hbw
  have HG := Lib.hid hD
  clear hi0 hz0 hz1 hz2 hz hD
  go_enter Try.func50, Try.ntmps50
  go_wp2_with fail
  refine (cuGood_any a b _).mono ?_
  rintro e w1 ⟨rfl, hb⟩
  have ht := below_then hbw hb (by simp)
  have h1 := h0.below hb
  have hD3 := hD2.below hb
  obtain ⟨c0, c1, -, -⟩ := h1.two
  clear hb h0 hbw hD2
  cases hp : isCo a b
  · have HF : Hid (okSw a b i j (rowNums rs) = false) := by show _ = _; rw [okSw, (cp_no (.inl hp)).2]; rfl
    clear hp
    go_wp2
    go_ret2
    rw [sw_no HF.out, HF.out]
    exact BackPost.no ht
  · by_cases h40 : 40 < n
    · have HF : Hid (okSw a b i j (rowNums rs) = false) := by show _ = _; rw [okSw, (cp_no (.inr (by have := HLS.out; have := HZ.out; omega))).2]; rfl
      have hd : decide ((n : Int) > 40) = true := by simp; omega
      clear hp
      go_wp2
      go_ret2
      rw [sw_no HF.out, HF.out]
      exact BackPost.no ht
    · obtain ⟨⟨ha1, ha4⟩, hb1, hb4⟩ := isCo_iff.1 hp
      obtain ⟨k, rfl⟩ : ∃ k : Nat, a = k := ⟨a.toNat, by omega⟩
      have hd : decide ((n : Int) > 40) = false := by simp; omega
      have hk4 : k ≤ 4 := by omega
      have HCP := Lib.hid ((cp_yes (ls := rowNums rs) hp (by have := HLS.out; have := HZ.out; omega)).2)
      have hkw : IntKind.i64.wrap ((k : Int) - 1) = (k : Int) - 1 := IntWalk.i64_in _ (by omega)
      clear hp hb1 hb4
      go_wp2_with fail
      refine (cuPlan_any k b D n z rs _ hk4 hD3 HZ.out hn).mono ?_
      rintro e w2 ⟨rfl, hb⟩
      rw [← HCP.out]
      replace ht := below_then ht hb ht.size
      obtain ⟨d0, d1, -, -⟩ := (h1.below hb).two
      clear hb c0 c1 h1 hD3
      cases hcp : isCP k b (rowNums rs)
      · have HF : Hid (okSw k b i j (rowNums rs) = false) := by show _ = _; rw [okSw, hcp]; rfl
        clear hcp
        go_wp2
        go_ret2
        rw [sw_no HF.out, HF.out]
        exact BackPost.no ht
      · cases hwi : within i 0 (k - 1)
        · have HF : Hid (okSw k b i j (rowNums rs) = false) := by show _ = _; rw [okSw, hwi]; simp
          have HWI := Lib.hid hwi
          clear hcp hwi
          go_wp2_with (go_at_call 83; refine (l1In_any _ _ _ _).mono ?_; rintro e w' ⟨rfl, rfl⟩; rw [HWI.out])
          go_ret2
          rw [sw_no HF.out, HF.out]
          exact BackPost.no ht
        · cases hwj : within j 0 (k - 1)
          · have HF : Hid (okSw k b i j (rowNums rs) = false) := by show _ = _; rw [okSw, hwj]; simp
            have HWI := Lib.hid hwi
            have HWJ := Lib.hid hwj
            clear hcp hwi hwj
            go_wp2_with (go_at_call 83; refine (l1In_any _ _ _ _).mono ?_; rintro e w' ⟨rfl, rfl⟩; first | rw [HWI.out] | rw [HWJ.out])
            go_ret2
            rw [sw_no HF.out, HF.out]
            exact BackPost.no ht
          · have HT : Hid (okSw k b i j (rowNums rs) = true) := by show _ = _; rw [okSw, hcp, hwi, hwj]; rfl
            obtain ⟨hrw, -, -, -⟩ := isCP_rows hcp
            have hii := within_iff.1 hwi
            have hjj := within_iff.1 hwj
            obtain ⟨i', rfl⟩ := Int.eq_ofNat_of_zero_le hii.1
            obtain ⟨j', rfl⟩ := Int.eq_ofNat_of_zero_le hjj.1
            have hi4 : i' < 4 := by omega
            have hj4 : j' < 4 := by omega
            have HSW := Lib.hid (sw_yes HT.out)
            have HRW := Lib.hid hrw
            have HWI := Lib.hid hwi
            have HWJ := Lib.hid hwj
            have hn40 : n ≤ 40 := by omega
            have HTT := Lib.hid ht
            clear hcp hwi hwj hrw h40 hii hjj
            go_wp2_with (go_at_call 83; refine (l1In_any _ _ _ _).mono ?_; rintro e w' ⟨rfl, rfl⟩; first | rw [HWI.out] | rw [HWJ.out])
            clear d0 d1 ht
            go_loopw [10, 49] (fun v q wr => ∃ (x : Nat) (E : Option Addr) (d : Nat) (acc : List RowV), x ≤ n ∧ q = .int .i64 x ∧ v = .slice E acc.length d ∧ rowNums acc = ((rowNums rs).take x).map (swL i' j') ∧ Heads wr w.heap.size E d acc ∧ Below w.heap.size w wr) (fun _ q _ => n - (intOf q).toNat)
            case atStart => exact ⟨0, none, 0, [], Nat.zero_le _, rfl, rfl, by simp [rowNums], Heads.nil _ _, HTT.out⟩
            case round =>
              obtain ⟨w5, rfl⟩ : ∃ w5 : World, w5 = wr := ⟨_, rfl⟩
              obtain ⟨x, E, d, acc, hx, rfl, rfl, hra, hh, hb⟩ := hrel
              have hacc : acc.length ≤ 40 := by have h2 := congrArg List.length hra; rw [rowNums_len, List.length_map, List.length_take] at h2; omega
              have HRA := Lib.hid hra
              have HH := Lib.hid hh
              have HB := Lib.hid hb
              have hbs := hb.size
              by_cases hlt : x < n
              · have hlt2 : x < rs.length := by have := HZ.out; omega
                obtain ⟨bb, o, rfl, hbl, hc, hrow, hrl, hrn⟩ := grid_rowS (HG.out.below hb) hlt2
                have hxl : x < (rowNums rs).length := by rw [rowNums_len]; exact hlt2
                have hget : (rowNums rs)[x] = rs[x].xs := by simp [rowNums]
                have HRX := Lib.hid (HRW.out _ (List.getElem_mem hxl))
                have HNX : Hid (((rowNums rs).take (x + 1)).map (swL i' j') = ((rowNums rs).take x).map (swL i' j') ++ [swL i' j' (rowNums rs)[x]]) := by
                  show _ = _
                  rw [List.take_succ_eq_append_getElem hxl, List.map_append]
                  rfl
                rw [hget] at HRX HNX
                obtain ⟨R, hR⟩ : ∃ R, R = rs[x] := ⟨_, rfl⟩
                rw [← hR] at hc hrow hrl hrn HRX HNX
                obtain ⟨rA, rn, rc, l⟩ := R
                replace hc : World.cell? w5 ⟨bb, o + x, none⟩ = some (.slice rA rn rc) := hc
                replace hrl : l.length = rn := hrl
                subst hrl
                have HR : Hid (Holds w5 rA (nums l)) := hrow
                obtain ⟨hst, hl1, hl4⟩ : StepsTo l 7 l.length ∧ 1 ≤ l.length ∧ l.length ≤ 4 := HRX.out
                have HST := Lib.hid hst
                have HSL := Lib.hid (swL_len hi4 hj4 hst hl1 hl4)
                have HMS := Lib.hid (sw_mask_small hi4 hj4 hst)
                clear hra hh hb hrow hrn hR hget HRX hst hlt2 hxl
                go_wp2
                go_loopw [13, 55] (fun v q wr => ∃ y : Nat, y ≤ l.length ∧ q = .int .i64 y ∧ v = .int .i64 (maskOf ((l.map (swK i' j')).take y) : Nat) ∧ Below w5.heap.size w5 wr) (fun _ q _ => l.length - (intOf q).toNat)
                case atStart => exact ⟨0, Nat.zero_le _, rfl, rfl, Below.refl _ _⟩
                case round =>
                  obtain ⟨w6, rfl⟩ : ∃ w6 : World, w6 = wr := ⟨_, rfl⟩
                  obtain ⟨y, hy, rfl, rfl, hb6⟩ := hrel
                  by_cases hly : y < l.length
                  · have hdy : decide ((y : Int) < (l.length : Int)) = true := by simp; omega
                    obtain ⟨b7, o7, rfl, hbl7, hc7⟩ := (HR.out.below hb6).look (k := y) (by simpa [nums] using hly)
                    simp only [nums, List.getElem_map] at hc7
                    obtain ⟨h0, h7, -⟩ : Step l 7 y := HST.out y hly
                    rw [getD_at l hly] at h0 h7
                    have hms := HMS.out y
                    have hrg := sw_range hi4 hj4 h0 h7
                    have HNY : Hid (maskOf ((l.map (swK i' j')).take (y + 1)) = maskOf ((l.map (swK i' j')).take y) ||| 2 ^ (swK i' j' l[y]).toNat) := by
                      show _ = _
                      rw [mask_next (by simpa using hly)]
                      simp
                    have HSK : Hid (swK i' j' l[y] = if l[y] / 2 = i' then l[y] + 2 * ((j' : Int) - i') else if l[y] / 2 = j' then l[y] + 2 * ((i' : Int) - j') else l[y]) := rfl
                    generalize l[y] = p at hc7 h0 h7 hrg HNY HSK
                    obtain ⟨t, htt⟩ : ∃ t : Nat, swK i' j' p = t := ⟨(swK i' j' p).toNat, by omega⟩
                    rw [htt] at HNY HSK hrg
                    rw [Int.toNat_natCast] at HNY
                    have ht7 : t ≤ 7 := by omega
                    have hor : Go.bits .or .i64 ((maskOf ((l.map (swK i' j')).take y) : Nat) : Int) (wrap64 ((2 : Int) ^ t)) = ((maskOf ((l.map (swK i' j')).take (y + 1)) : Nat) : Int) := by
                      rw [wrap_pow ht7, bits_or_nat _ _ (by omega) (pow_small ht7), HNY.out]
                    have HB6 := Lib.hid hb6
                    have HOR := Lib.hid hor
                    have hsk := HSK.out
                    clear hb6 HNY htt hrg hms hor
                    by_cases hc1 : p / 2 = (i' : Int)
                    · rw [if_pos hc1] at hsk
                      have hbe : (p / 2 == (i' : Int)) = true := by simp [hc1]
                      have hw1 : IntKind.i64.wrap (2 * ((j' : Int))) = 2 * ((j' : Int)) := IntWalk.i64_in _ (by omega)
                      have hw2 : IntKind.i64.wrap (2 * ((j' : Int)) + p % 2) = (t : Int) := by rw [IntWalk.i64_in _ (by omega)]; omega
                      clear HSK hsk
                      go_wp2
                      go_roundw
                      case rel => exact ⟨y + 1, by omega, by go_num, by rw [HOR.out], HB6.out⟩
                      case measure => simp [intOf]; omega
                    · rw [if_neg hc1] at hsk
                      have hbe : (p / 2 == (i' : Int)) = false := by simp [hc1]
                      by_cases hc2 : p / 2 = (j' : Int)
                      · rw [if_pos hc2] at hsk
                        have hbe2 : (p / 2 == (j' : Int)) = true := by simp [hc2]
                        have hw1 : IntKind.i64.wrap (2 * ((i' : Int))) = 2 * ((i' : Int)) := IntWalk.i64_in _ (by omega)
                        have hw2 : IntKind.i64.wrap (2 * ((i' : Int)) + p % 2) = (t : Int) := by rw [IntWalk.i64_in _ (by omega)]; omega
                        clear HSK hsk
                        go_wp2
                        go_roundw
                        case rel => exact ⟨y + 1, by omega, by go_num, by rw [HOR.out], HB6.out⟩
                        case measure => simp [intOf]; omega
                      · rw [if_neg hc2] at hsk
                        have hbe2 : (p / 2 == (j' : Int)) = false := by simp [hc2]
                        have hw1 : IntKind.i64.wrap (2 * (p / 2)) = 2 * (p / 2) := IntWalk.i64_in _ (by omega)
                        have hw2 : IntKind.i64.wrap (2 * (p / 2) + p % 2) = (t : Int) := by rw [IntWalk.i64_in _ (by omega)]; omega
                        clear HSK hsk
                        go_wp2
                        go_roundw
                        case rel => exact ⟨y + 1, by omega, by go_num, by rw [HOR.out], HB6.out⟩
                        case measure => simp [intOf]; omega
                  · obtain rfl : y = l.length := by omega
                    have hdy : decide ((l.length : Int) < (l.length : Int)) = false := by simp
                    have hbs6 := hb6.size
                    have HB6 := Lib.hid hb6
                    have hmk := HMS.out l.length
                    have HTK : Hid ((l.map (swK i' j')).take l.length = l.map (swK i' j')) := by show _ = _; rw [List.take_of_length_le (by simp)]
                    rw [HTK.out] at hmk ⊢
                    have HLL : Hid (listOf (maskOf (l.map (swK i' j'))) = swL i' j' l) := rfl
                    have HLN : Hid ((listOf (maskOf (l.map (swK i' j')))).length = l.length) := by show _ = _; rw [HLL.out]; exact HSL.out
                    generalize maskOf (l.map (swK i' j')) = g at hmk HLL HLN ⊢
                    clear hb6 hc
                    go_wp2_with fail
                    refine (cuList_any g _ hmk).mono ?_
                    rintro e w2 ⟨E2, r2, rfl, hown2, hb2⟩
                    rw [HLN.out] at hown2 ⊢
                    rw [HLL.out] at hown2
                    have hs2 : w6.heap.size ≤ w2.heap.size := hb2.size
                    have HB2 := Lib.hid hb2
                    obtain ⟨A3, q3, hv3, hf3⟩ := Fresh.of_own hown2 (Nat.le_refl _)
                    simp only [Value.slice.injEq, true_and] at hv3
                    obtain ⟨rfl, rfl⟩ := hv3
                    have HF2 := Lib.hid hf3
                    have HOWN := Lib.hid (((HH.out.below HB6.out).below hb2).alloc (.cells #[.slice E2 l.length r2] 22)).1
                    have HMAX := Lib.hid (show acc.length + 1 ≤ maxLen by unfold maxLen; omega)
                    have HBYT := Lib.hid (show (acc.length + 1) * 24 ≤ 140737488355328 by omega)
                    have HBASE := Lib.hid (show w.heap.size ≤ (w2.alloc (.cells #[.slice E2 l.length r2] 22)).heap.size by simp; omega)
                    clear hb2 hf3 hown2
                    go_wp2_with (at_builtin; refine wpList_append_lies _ rfl (.tmp 79) (.tmp 82) 41 rfl w.heap.size 22 i0 (.slice none 0 0) 1 24 Try.underlying41 HI.out HZ0.out HZ1.out HZ2.out rfl (by decide) (.slice E acc.length d) acc.length (rowVals acc) rfl HOWN.out ⟨w2.heap.size, 0, none⟩ 1 1 [.slice E2 l.length r2] rfl rfl (cell_one_new _ _ _) (by simp [Value.oneCell']) (by decide) HMAX.out HBYT.out HBASE.out (w2.heap.size + 1) (by simp) ?_; intro g4 cap w4 hown4 hg4 hat hlt4)
                    have HP2 := Lib.hid (Heads.push (r := ⟨E2, l.length, r2, swL i' j' l⟩) (HH.out.below HB6.out) (by omega) HB2.out HF2.out HSL.out (by show l.length ≤ _; omega) hown4 hg4 hat)
                    have HBN := Lib.hid (((below_then (below_then HB.out HB6.out hbs) HB2.out (by omega)).alloc (by omega) (.cells #[.slice E2 l.length r2] 22)).grown hg4 HBASE.out (fun kk hkk => (HOWN.out.lt kk hkk).1))
                    clear hown4 hg4 hat hlt4
                    go_roundw
                    case rel => exact ⟨x + 1, some ⟨g4, 0, none⟩, cap, acc ++ [⟨E2, l.length, r2, swL i' j' l⟩], by omega, by go_num, by simp, by rw [HNX.out, show rowNums (acc ++ [⟨E2, l.length, r2, swL i' j' l⟩]) = rowNums acc ++ [swL i' j' l] by simp [rowNums], HRA.out], HP2.out, HBN.out⟩
                    case measure => simp [intOf]; omega
              · obtain rfl : x = n := by omega
                have hdx : decide ((x : Int) < (x : Int)) = false := by simp
                have HR2 : Hid (rowNums acc = (rowNums rs).map (swL i' j')) := by
                  show _ = _
                  rw [HRA.out, List.take_of_length_le (by have := HLS.out; have := HZ.out; omega)]
                have HFR := Lib.hid hh.free
                clear hra hh hb HRA
                go_wp2
                go_ret2
                rw [HSW.out, HT.out]
                exact ⟨E, acc.length, d, acc, rfl, HR2.out, rfl, HFR.out, HB.out⟩

theorem specSwap_on (a b i j : Int) (D : Option Addr) (n z : Nat) (rs : List RowV) (ls : List (List Int)) (w : World) (hD : Grid w D rs) (he : rowNums rs = ls) (hz : rs.length = n) (hn : n ≤ 9223372036854775807) :
    Calls Try.prog 50 #[.agg #[.int .i64 a, .int .i64 b], .slice D n z, .int .i64 i, .int .i64 j] w (BackPost (swLs a b i j ls) (okSw a b i j ls) w) :=
  he ▸ specSwap_any a b i j D n z rs w hD hz hn
theorem implSwap_on (a b i j : Int) (D : Option Addr) (n z : Nat) (rs : List RowV) (ls : List (List Int)) (w : World) (hD : Grid w D rs) (he : rowNums rs = ls) (hz : rs.length = n) (hn : n ≤ 9223372036854775807) :
    Calls Try.prog 53 #[.agg #[.int .i64 a, .int .i64 b], .slice D n z, .int .i64 i, .int .i64 j] w (BackPost (swLs a b i j ls) (okSw a b i j ls) w) :=
  he ▸ implSwap_any a b i j D n z rs w hD hz hn
end Go.Proofs.Ytcikimjpjebflaa

namespace Go.Proofs.Ytcikimjpjebflaa
open Go.RowKit

set_option maxHeartbeats 800000 in
set_option linter.unusedVariables false in
theorem lawSwapCouples_big0 (k0 : Int) (k1 : Int) (A0 : Option Addr) (n0 c0 : Nat) (x0 : List RowV) (k2 : Int) (k3 : Int) (w : World) (h0 : Grid w A0 x0) (hx0 : x0.length = n0) (hn0 : n0 ≤ 9223372036854775807)  (hbig : 1048576 - (total x0 : Int) < 0) :
    Calls Try.prog 12 #[.agg #[.int .i64 k0, .int .i64 k1], .slice A0 n0 c0, .int .i64 k2, .int .i64 k3] w fun e w' => e = .returned (.bool true) ∧ Below w.heap.size w w' := by
  have hb0 := (Whole.fresh w 59 #[.int .i64 k0, .int .i64 k1])
  have ht := below1 w (.cells #[.int .i64 k0, .int .i64 k1] 59)
  have HX0 := Lib.hid hx0
  clear hx0
  obtain ⟨hb0_0, hb0_1⟩ := hb0.cells2
  have hb0_l := hb0.lt
  go_enter Try.func12, Try.ntmps12
  go_wp2_with fail
  refine (szIntSS_any A0 n0 c0 x0 (1048576) _ (by exact h0.below ht) HX0.out (by omega) (by omega) (by omega)).mono ?_
  rintro e v1 ⟨rfl, rfl⟩
  rw [totalLeft, if_pos (by omega)]
  clear hb0_0 hb0_1 hb0_l
  go_wp2
  go_ret
  exact ⟨rfl, ht⟩

set_option maxHeartbeats 12800000 in
set_option maxRecDepth 100000 in
set_option linter.unusedSimpArgs false in
set_option linter.unusedVariables false in
theorem lawSwapCouples_small (k0 : Int) (k1 : Int) (A0 : Option Addr) (n0 c0 : Nat) (x0 : List RowV) (k2 : Int) (k3 : Int) (w : World) (h0 : Grid w A0 x0) (hx0 : x0.length = n0) (hn0 : n0 ≤ 9223372036854775807) (g0 : 0 ≤ 1048576 - (total x0 : Int)) :
    Calls Try.prog 12 #[.agg #[.int .i64 k0, .int .i64 k1], .slice A0 n0 c0, .int .i64 k2, .int .i64 k3] w fun e w' => e = .returned (.bool true) ∧ Below w.heap.size w w' := by
  have hb0 := (Whole.fresh w 59 #[.int .i64 k0, .int .i64 k1])
  have ht := below1 w (.cells #[.int .i64 k0, .int .i64 k1] 59)
  have HX0 := Lib.hid hx0
  clear hx0
  have hlen : (swLs k0 k1 k2 k3 (rowNums x0)).length ≤ 1048576 ∧ ((swLs k0 k1 k2 k3 (rowNums x0)).map List.length).sum ≤ 1048576 := swLs_le _ _ _ _ _
  obtain ⟨hb0_0, hb0_1⟩ := hb0.cells2
  have hb0_l := hb0.lt
  go_enter Try.func12, Try.ntmps12
  -- region 2
  go_wp2_with fail
  refine (szIntSS_any A0 n0 c0 x0 (1048576) _ (by exact h0.below ht) HX0.out (by omega) (by omega) (by omega)).mono ?_
  rintro e v1 ⟨rfl, rfl⟩
  rw [totalLeft, if_neg (by omega)]
  clear hb0_0 hb0_1 hb0_l
  obtain ⟨hb0_0, hb0_1⟩ := hb0.cells2
  have hb0_l := hb0.lt
  -- region 5
  go_wp2_with fail
  refine (toCompany_any k0 k1 _).mono ?_
  rintro e v1 ⟨rfl, hb⟩
  have hz1 : w.heap.size + 1 ≤ v1.heap.size := by have := hb.size; simpa using this
  replace ht := below_then ht hb ht.size
  replace hb0 := hb0.below hb
  clear hb
  clear hb0_0 hb0_1 hb0_l
  obtain ⟨hb0_0, hb0_1⟩ := hb0.cells2
  have hb0_l := hb0.lt
  go_wp2_with fail
  refine (toIntSS_any A0 n0 c0 x0 _ (by exact h0.below ht) HX0.out (by omega)).mono ?_
  rintro e v2 ⟨gp0, wsp0, rfl, hgp0, hwp0, hep0, hlp0, hb⟩
  have hz2 : v1.heap.size ≤ v2.heap.size := by have := hb.size; simpa using this
  replace ht := below_then ht hb ht.size
  replace hb0 := hb0.below hb
  have HEp0 := Lib.hid hep0
  have HLp0 := Lib.hid hlp0
  clear hep0 hlp0
  have hp0 := hwp0.free.more (lo' := v1.heap.size) (hi' := v2.heap.size) (by simpa using hgp0) (Nat.le_refl _)
  have hcapp0 : n0 ≤ 1048576 := by have := total_len x0; have := HX0.out; omega
  clear hgp0 hwp0
  clear hb
  clear hb0_0 hb0_1 hb0_l
  obtain ⟨hb0_0, hb0_1⟩ := hb0.cells2
  have hb0_l := hb0.lt
  go_wp2_with fail
  refine (specSwap_on k0 k1 k2 k3 _ n0 _ wsp0 (rowNums x0) _ (by exact hp0.grid) HEp0.out HLp0.out (by omega)).mono ?_
  rintro e v3 ⟨B0, m0, q0, rs0, rfl, he0, hl0, hF0, hb⟩
  have hz3 : v2.heap.size ≤ v3.heap.size := by have := hb.size; simpa using this
  replace ht := below_then ht hb ht.size
  replace hb0 := hb0.below hb
  replace hp0 := hp0.below hb
  have HER0 := Lib.hid he0
  have HLR0 := Lib.hid hl0
  have hnr0 : m0 ≤ 1048576 := by have h1 := hl0; have h2 := congrArg List.length he0; rw [rowNums_len] at h2; have h3 := hlen.1; omega
  clear he0 hl0
  replace hF0 := hF0.more (lo' := v2.heap.size) (hi' := v3.heap.size) (by simp) (Nat.le_refl _)
  clear hb
  clear hp0
  clear hb0_0 hb0_1 hb0_l
  obtain ⟨hb0_0, hb0_1⟩ := hb0.cells2
  have hb0_l := hb0.lt
  -- region 6
  go_wp2_with fail
  refine (toIntSS_any A0 n0 c0 x0 _ (by exact h0.below ht) HX0.out (by omega)).mono ?_
  rintro e v4 ⟨gx0, wsx0, rfl, hgx0, hwx0, hex0, hlx0, hb⟩
  have hz4 : v3.heap.size ≤ v4.heap.size := by have := hb.size; simpa using this
  replace ht := below_then ht hb ht.size
  replace hb0 := hb0.below hb
  replace hF0 := hF0.below hb
  have HEx0 := Lib.hid hex0
  have HLx0 := Lib.hid hlx0
  clear hex0 hlx0
  have hx0 := hwx0.free.more (lo' := v3.heap.size) (hi' := v4.heap.size) (by simpa using hgx0) (Nat.le_refl _)
  have hcapx0 : n0 ≤ 1048576 := by have := total_len x0; have := HX0.out; omega
  clear hgx0 hwx0
  clear hb
  clear hb0_0 hb0_1 hb0_l
  obtain ⟨hb0_0, hb0_1⟩ := hb0.cells2
  have hb0_l := hb0.lt
  -- region 7
  go_wp2_with fail
  refine (toCompany_any k0 k1 _).mono ?_
  rintro e v5 ⟨rfl, hb⟩
  have hz5 : v4.heap.size ≤ v5.heap.size := by have := hb.size; simpa using this
  replace ht := below_then ht hb ht.size
  replace hb0 := hb0.below hb
  replace hF0 := hF0.below hb
  replace hx0 := hx0.below hb
  clear hb
  clear hb0_0 hb0_1 hb0_l
  obtain ⟨hb0_0, hb0_1⟩ := hb0.cells2
  have hb0_l := hb0.lt
  go_wp2_with fail
  refine (implSwap_on k0 k1 k2 k3 _ n0 _ wsx0 (rowNums x0) _ (by exact hx0.grid) HEx0.out HLx0.out (by omega)).mono ?_
  rintro e v6 ⟨B1, m1, q1, rs1, rfl, he1, hl1, hF1, hb⟩
  have hz6 : v5.heap.size ≤ v6.heap.size := by have := hb.size; simpa using this
  replace ht := below_then ht hb ht.size
  replace hb0 := hb0.below hb
  replace hF0 := hF0.below hb
  replace hx0 := hx0.below hb
  have HER1 := Lib.hid he1
  have HLR1 := Lib.hid hl1
  have hnr1 : m1 ≤ 1048576 := by have h1 := hl1; have h2 := congrArg List.length he1; rw [rowNums_len] at h2; have h3 := hlen.1; omega
  clear he1 hl1
  replace hF1 := hF1.more (lo' := v5.heap.size) (hi' := v6.heap.size) (by simp) (Nat.le_refl _)
  clear hb
  clear hb0_0 hb0_1 hb0_l
  obtain ⟨hb0_0, hb0_1⟩ := hb0.cells2
  have hb0_l := hb0.lt
  -- region 8
  go_wp2_with fail
  refine (eqIntSS_yes B1 B0 m1 m0 q1 q0 rs1 rs0 _ (by exact hF1.grid) (by exact hF0.grid) (by rw [HER1.out, HER0.out]) HLR1.out HLR0.out (by omega)).mono ?_
  rintro e v7 ⟨rfl, hb⟩
  have hz7 : v6.heap.size ≤ v7.heap.size := by have := hb.size; simpa using this
  replace ht := below_then ht hb ht.size
  replace hb0 := hb0.below hb
  replace hF0 := hF0.below hb
  replace hx0 := hx0.below hb
  replace hF1 := hF1.below hb
  clear hb
  clear hb0_0 hb0_1 hb0_l
  obtain ⟨hb0_0, hb0_1⟩ := hb0.cells2
  have hb0_l := hb0.lt
  -- region 10
  go_wp2_with fail
  refine (toIntSS_any A0 n0 c0 x0 _ (by exact h0.below ht) HX0.out (by omega)).mono ?_
  rintro e v8 ⟨gy0, wsy0, rfl, hgy0, hwy0, hey0, hly0, hb⟩
  have hz8 : v7.heap.size ≤ v8.heap.size := by have := hb.size; simpa using this
  replace ht := below_then ht hb ht.size
  replace hb0 := hb0.below hb
  replace hF0 := hF0.below hb
  replace hx0 := hx0.below hb
  replace hF1 := hF1.below hb
  have HEy0 := Lib.hid hey0
  have HLy0 := Lib.hid hly0
  clear hey0 hly0
  have hy0 := hwy0.free.more (lo' := v7.heap.size) (hi' := v8.heap.size) (by simpa using hgy0) (Nat.le_refl _)
  have hcapy0 : n0 ≤ 1048576 := by have := total_len x0; have := HX0.out; omega
  clear hgy0 hwy0
  clear hb
  clear hb0_0 hb0_1 hb0_l
  obtain ⟨hb0_0, hb0_1⟩ := hb0.cells2
  have hb0_l := hb0.lt
  go_wp2_with fail
  refine (eqIntSS_yes _ _ n0 n0 _ _ wsx0 wsy0 _ (by exact hx0.grid) (by exact hy0.grid) (by rw [HEx0.out, HEy0.out]) HLx0.out HLy0.out (by omega)).mono ?_
  rintro e v9 ⟨rfl, hb⟩
  have hz9 : v8.heap.size ≤ v9.heap.size := by have := hb.size; simpa using this
  replace ht := below_then ht hb ht.size
  replace hb0 := hb0.below hb
  replace hF0 := hF0.below hb
  replace hx0 := hx0.below hb
  replace hF1 := hF1.below hb
  replace hy0 := hy0.below hb
  clear hb
  clear hy0
  clear hb0_0 hb0_1 hb0_l
  obtain ⟨hb0_0, hb0_1⟩ := hb0.cells2
  have hb0_l := hb0.lt
  -- region 13
  go_wp2_with fail
  have hsum0 : part wsx0 wsx0.length ≤ 1048576 := by rw [part_nums hx0.grid h0 HEx0.out]; have := part_total x0; omega
  refine (markIntSS_any (some ⟨gx0, 0, none⟩) n0 n0 _ _ wsx0 (1) _ hx0 HLx0.out (by omega) (by omega) (by omega) hsum0).mono ?_
  rintro e v10 ⟨rfl, hs, -⟩
  have hsz := ht.size
  replace ht := hs.below ht (by omega) hsz
  replace hb0 := hs.whole hb0 (by omega)
  replace hF0 := hs.freeGrid hF0 (by omega)
  replace hF1 := hs.freeGrid hF1 (by omega)
  clear hs hsz hx0
  have hk_1 : (0 : Int) ≤ 1 + ((part wsx0 wsx0.length : Nat) : Int) := by omega
  clear hb0_0 hb0_1 hb0_l
  obtain ⟨hb0_0, hb0_1⟩ := hb0.cells2
  have hb0_l := hb0.lt
  -- region 14
  go_wp2_with fail
  refine (eqIntSS_yes B1 B0 m1 m0 q1 q0 rs1 rs0 _ (by exact hF1.grid) (by exact hF0.grid) (by rw [HER1.out, HER0.out]) HLR1.out HLR0.out (by omega)).mono ?_
  rintro e v11 ⟨rfl, hb⟩
  have hz11 : v10.heap.size ≤ v11.heap.size := by have := hb.size; simpa using this
  replace ht := below_then ht hb ht.size
  replace hb0 := hb0.below hb
  replace hF0 := hF0.below hb
  replace hF1 := hF1.below hb
  clear hb
  clear hb0_0 hb0_1 hb0_l
  obtain ⟨hb0_0, hb0_1⟩ := hb0.cells2
  have hb0_l := hb0.lt
  -- region 17
  go_wp2_with fail
  have hprt : part rs1 rs1.length ≤ 1048576 := by have h1 := part_lens hF1.grid; have h2 := hlen.2; rw [HER1.out] at h1; omega
  refine (markIntSS_any B1 m1 q1 _ _ rs1 1 _ hF1 HLR1.out (by omega) (by omega) hnr1 hprt).mono ?_
  rintro e v12 ⟨rfl, hs, hM⟩
  have hsz := ht.size
  replace ht := hs.below ht (by omega) hsz
  replace hb0 := hs.whole hb0 (by omega)
  replace hF0 := hs.freeGrid hF0 (by omega)
  clear hs hF1 hsz
  clear hb0_0 hb0_1 hb0_l
  obtain ⟨hb0_0, hb0_1⟩ := hb0.cells2
  have hb0_l := hb0.lt
  -- region 19
  go_wp2_with fail
  refine (heldIntSS_any B1 m1 q1 rs1 1 _ (by exact hM.grid) HLR1.out (by omega) (by omega) hnr1 hprt).mono ?_
  rintro e v13 ⟨rfl, hb⟩
  have hz13 : v12.heap.size ≤ v13.heap.size := by have := hb.size; simpa using this
  replace ht := below_then ht hb ht.size
  replace hb0 := hb0.below hb
  replace hF0 := hF0.below hb
  replace hM := hM.below hb
  clear hb
  have hm0 : (0 : Int) ≤ 1 + ((part rs1 rs1.length : Nat) : Int) := by omega
  clear hb0_0 hb0_1 hb0_l
  obtain ⟨hb0_0, hb0_1⟩ := hb0.cells2
  have hb0_l := hb0.lt
  -- region 24
  go_wp2_with fail
  refine (toCompany_any k0 k1 _).mono ?_
  rintro e v14 ⟨rfl, hb⟩
  have hz14 : v13.heap.size ≤ v14.heap.size := by have := hb.size; simpa using this
  replace ht := below_then ht hb ht.size
  replace hb0 := hb0.below hb
  replace hF0 := hF0.below hb
  replace hM := hM.below hb
  clear hb
  clear hb0_0 hb0_1 hb0_l
  obtain ⟨hb0_0, hb0_1⟩ := hb0.cells2
  have hb0_l := hb0.lt
  go_wp2_with fail
  refine (toIntSS_any A0 n0 c0 x0 _ (by exact h0.below ht) HX0.out (by omega)).mono ?_
  rintro e v15 ⟨gr0, wsr0, rfl, hgr0, hwr0, her0, hlr0, hb⟩
  have hz15 : v14.heap.size ≤ v15.heap.size := by have := hb.size; simpa using this
  replace ht := below_then ht hb ht.size
  replace hb0 := hb0.below hb
  replace hF0 := hF0.below hb
  replace hM := hM.below hb
  have HEr0 := Lib.hid her0
  have HLr0 := Lib.hid hlr0
  clear her0 hlr0
  have hr0 := hwr0.free.more (lo' := v14.heap.size) (hi' := v15.heap.size) (by simpa using hgr0) (Nat.le_refl _)
  have hcapr0 : n0 ≤ 1048576 := by have := total_len x0; have := HX0.out; omega
  clear hgr0 hwr0
  clear hb
  clear hb0_0 hb0_1 hb0_l
  obtain ⟨hb0_0, hb0_1⟩ := hb0.cells2
  have hb0_l := hb0.lt
  go_wp2_with fail
  refine (implSwap_on k0 k1 k2 k3 _ n0 _ wsr0 (rowNums x0) _ (by exact hr0.grid) HEr0.out HLr0.out (by omega)).mono ?_
  rintro e v16 ⟨B2, m2, q2, rs2, rfl, he2, hl2, hF2, hb⟩
  have hz16 : v15.heap.size ≤ v16.heap.size := by have := hb.size; simpa using this
  replace ht := below_then ht hb ht.size
  replace hb0 := hb0.below hb
  replace hF0 := hF0.below hb
  replace hM := hM.below hb
  replace hr0 := hr0.below hb
  have HER2 := Lib.hid he2
  have HLR2 := Lib.hid hl2
  have hnr2 : m2 ≤ 1048576 := by have h1 := hl2; have h2 := congrArg List.length he2; rw [rowNums_len] at h2; have h3 := hlen.1; omega
  clear he2 hl2
  replace hF2 := hF2.more (lo' := v15.heap.size) (hi' := v16.heap.size) (by simp) (Nat.le_refl _)
  clear hb
  clear hr0
  clear hb0_0 hb0_1 hb0_l
  obtain ⟨hb0_0, hb0_1⟩ := hb0.cells2
  have hb0_l := hb0.lt
  -- region 25
  go_wp2_with fail
  refine (eqIntSS_yes B2 B0 m2 m0 q2 q0 rs2 rs0 _ (by exact hF2.grid) (by exact hF0.grid) (by rw [HER2.out, HER0.out]) HLR2.out HLR0.out (by omega)).mono ?_
  rintro e v17 ⟨rfl, hb⟩
  have hz17 : v16.heap.size ≤ v17.heap.size := by have := hb.size; simpa using this
  replace ht := below_then ht hb ht.size
  replace hb0 := hb0.below hb
  replace hF0 := hF0.below hb
  replace hM := hM.below hb
  replace hF2 := hF2.below hb
  clear hb
  clear hb0_0 hb0_1 hb0_l
  obtain ⟨hb0_0, hb0_1⟩ := hb0.cells2
  have hb0_l := hb0.lt
  -- region 28
  go_wp2_with fail
  refine (heldIntSS_any B1 m1 q1 rs1 1 _ (by exact hM.grid) HLR1.out (by omega) (by omega) hnr1 hprt).mono ?_
  rintro e v18 ⟨rfl, hb⟩
  have hz18 : v17.heap.size ≤ v18.heap.size := by have := hb.size; simpa using this
  replace ht := below_then ht hb ht.size
  replace hb0 := hb0.below hb
  replace hF0 := hF0.below hb
  replace hM := hM.below hb
  replace hF2 := hF2.below hb
  clear hb
  clear hb0_0 hb0_1 hb0_l
  obtain ⟨hb0_0, hb0_1⟩ := hb0.cells2
  have hb0_l := hb0.lt
  go_wp2
  go_ret
  exact ⟨rfl, ht⟩

theorem lawSwapCouples_all (k0 : Int) (k1 : Int) (A0 : Option Addr) (n0 c0 : Nat) (x0 : List RowV) (k2 : Int) (k3 : Int) (w : World) (h0 : Grid w A0 x0) (hx0 : x0.length = n0) (hn0 : n0 ≤ 9223372036854775807) (_hk2 : -9223372036854775808 ≤ k2 ∧ k2 ≤ 9223372036854775807) (_hk3 : -9223372036854775808 ≤ k3 ∧ k3 ≤ 9223372036854775807) :
    Calls Try.prog 12 #[.agg #[.int .i64 k0, .int .i64 k1], .slice A0 n0 c0, .int .i64 k2, .int .i64 k3] w fun e w' => e = .returned (.bool true) ∧ Below w.heap.size w w' := by
  rcases (inferInstance : Decidable (0 ≤ 1048576 - (total x0 : Int))) with g0 | g0
  · exact lawSwapCouples_big0 k0 k1 A0 n0 c0 x0 k2 k3 w h0 hx0 hn0  (by omega)
  exact lawSwapCouples_small k0 k1 A0 n0 c0 x0 k2 k3 w h0 hx0 hn0 g0
end Go.Proofs.Ytcikimjpjebflaa
