/-
  What is proved: plain facts on couples taken for each other, and the contract of the program's swapped. Conditions: rising lists of at most four people of eight; four couples.
  What is proved: the contract of the program's SwapCouples. Conditions: the arguments are read as they lie.
  What is proved: the contract of the model's SwapCouples. Conditions: the arguments are read as they lie.
  What is proved: the law FnExactSwapCouples returns true at every argument, and leaves all that was there as it was. Conditions: the arguments are read as they lie.
-/
import Derived.Deep.RegionHeld3
import Derived.Test.YtkdjdnknhbmliaaJ4SwapCouples
namespace Go.Proofs.Ytkdjdnknhbmliaa
open Go.RowKit

/-- A person with couples i and j taken for each other. -/
def swK (i j : Nat) (x : Int) : Int := if x / 2 = i then x + 2 * ((j : Int) - i) else if x / 2 = j then x + 2 * ((i : Int) - j) else x
/-- A list of people with them so taken, in order. -/
def swL (i j : Nat) (l : List Int) : List Int := listOf (maskOf (l.map (swK i j)))
theorem sw_same {i j : Nat} {l : List Int} (hi : i < 4) (hj : j < 4) (hs : StepsTo l 7 l.length) (h1 : 1 ≤ l.length) (h4 : l.length ≤ 4) : swL i j l = insTo (l.map (swK i j)) l.length := by
  have h : ∀ l ∈ upLists 8 4, ∀ i, i < 4 → ∀ j, j < 4 → swL i j l = insTo (l.map (swK i j)) l.length := by decide +kernel
  exact h l (mem_up.2 ⟨hs, h1, h4⟩) i hi j hj
theorem swL_len {i j : Nat} {l : List Int} (hi : i < 4) (hj : j < 4) (hs : StepsTo l 7 l.length) (h1 : 1 ≤ l.length) (h4 : l.length ≤ 4) : (swL i j l).length = l.length := by
  rw [sw_same hi hj hs h1 h4, insTo_len _ (by simp)]
theorem sw_range {i j : Nat} {x : Int} (hi : i < 4) (hj : j < 4) (h0 : 0 ≤ x) (h7 : x ≤ 7) : 0 ≤ swK i j x ∧ swK i j x ≤ 7 := by
  unfold swK
  split
  · omega
  · split <;> omega

set_option maxHeartbeats 3200000 in
set_option maxRecDepth 100000 in
theorem swapped_any (A : Option Addr) (n c : Nat) (l : List Int) (i j : Nat) (w : World) (hA : Holds w A (nums l)) (hx : l.length = n) (hi : i < 4) (hj : j < 4) (hs : StepsTo l 7 l.length) (h1 : 1 ≤ n) (h4 : n ≤ 4) :
    Calls Try.prog 83 #[.slice A n c, .int .i64 i, .int .i64 j] w fun e w' => ∃ (E : Option Addr) (r : Nat), e = .returned (.slice E n r) ∧ Fresh w' w.heap.size w'.heap.size 3 E (nums (swL i j l)) ∧ Below w.heap.size w w' := by
  obtain ⟨i0, hi0, hz0, hz1, hz2⟩ := info_parts info_int
  have HI := Lib.hid hi0
  have HZ0 := Lib.hid hz0
  have HZ1 := Lib.hid hz1
  have HZ2 := Lib.hid hz2
  have HS := Lib.hid hs
  have HSW := Lib.hid (sw_same hi hj hs (by omega) (by omega))
  have hwij : IntKind.i64.wrap ((j : Int) - (i : Int)) = (j : Int) - i := IntWalk.i64_in _ (by omega)
  have hwji : IntKind.i64.wrap ((i : Int) - (j : Int)) = (i : Int) - j := IntWalk.i64_in _ (by omega)
  have hw2 : IntKind.i64.wrap (2 * ((j : Int) - (i : Int))) = 2 * ((j : Int) - i) := IntWalk.i64_in _ (by omega)
  have hw3 : IntKind.i64.wrap (2 * ((i : Int) - (j : Int))) = 2 * ((i : Int) - j) := IntWalk.i64_in _ (by omega)
  subst hx
  clear hi0 hz0 hz1 hz2 hs
  go_enter Try.func83, Try.ntmps83
  go_wp2
  go_loopw [7, 12] (fun v q wr => ∃ (x : Nat) (E : Option Addr) (r : Nat), x ≤ l.length ∧ q = .int .i64 x ∧ v = .slice E x r ∧ wr.ownsRow w.heap.size 3 1 (.slice E x r) x (nums ((l.map (swK i j)).take x)) ∧ Below w.heap.size w wr) (fun _ q _ => l.length - (intOf q).toNat)
  case atStart => exact ⟨0, none, 0, Nat.zero_le _, rfl, rfl, World.ownsRow_nil _ _ _ _, Below.refl _ _⟩
  case round =>
    obtain ⟨x, E, r, hxl, rfl, rfl, hown, hb⟩ := hrel
    by_cases hlt : x < l.length
    · have hxd : decide ((x : Int) < (l.length : Int)) = true := by simp; omega
      obtain ⟨b, o, rfl, hbl, hc⟩ := (hA.below hb).look (k := x) (by simpa [nums] using hlt)
      simp only [nums, List.getElem_map] at hc
      obtain ⟨h0, h7, -⟩ : Step l 7 x := HS.out x hlt
      rw [getD_at l hlt] at h0 h7
      have HNX : Hid (nums ((l.map (swK i j)).take (x + 1)) = nums ((l.map (swK i j)).take x) ++ [.int .i64 (swK i j l[x])]) := by
        show _ = _
        rw [List.take_succ_eq_append_getElem (by simpa using hlt)]
        simp [nums]
      have HSK : Hid (swK i j l[x] = if l[x] / 2 = i then l[x] + 2 * ((j : Int) - i) else if l[x] / 2 = j then l[x] + 2 * ((i : Int) - j) else l[x]) := rfl
      have hrg := sw_range hi hj h0 h7
      generalize l[x] = a at hc HNX HSK hrg h0 h7
      have HOWN := Lib.hid hown
      have HB := Lib.hid hb
      have HMAX := Lib.hid (show x + 1 ≤ maxLen by unfold maxLen; omega)
      have HBYT := Lib.hid (show (x + 1) * 8 ≤ 140737488355328 by omega)
      have hbs := hb.size
      clear hown hb
      by_cases hc1 : a / 2 = (i : Int)
      · have HV : Hid (swK i j a = a + 2 * ((j : Int) - i)) := by show _ = _; rw [HSK.out, if_pos hc1]
        have hwv : IntKind.i64.wrap (a + 2 * ((j : Int) - (i : Int))) = a + 2 * ((j : Int) - i) := IntWalk.i64_in _ (by omega)
        have hbe : (a / 2 == (i : Int)) = true := by simp [hc1]
        clear hrg
        have HOW := Lib.hid (HOWN.out.alloc (.cells #[.int .i64 (a + 2 * ((j : Int) - i))] 3))
        have HB1 := Lib.hid (HB.out.alloc HB.out.size (.cells #[.int .i64 (a + 2 * ((j : Int) - i))] 3))
        have HBASE := Lib.hid (show w.heap.size ≤ (wr.alloc (.cells #[.int .i64 (a + 2 * ((j : Int) - i))] 3)).heap.size by simp; omega)
        clear HSK
        go_wp2_with (at_builtin; refine wpList_append_own _ rfl (.tmp 36) (.tmp 38) 40 rfl w.heap.size 3 i0 (.int .i64 0) 1 8 Try.underlying40 HI.out HZ0.out HZ1.out HZ2.out rfl (by decide) (.slice E x r) x (nums ((l.map (swK i j)).take x)) rfl HOW.out ⟨wr.heap.size, 0, none⟩ 1 1 [.int .i64 (a + 2 * ((j : Int) - i))] rfl rfl (cell_one_new _ _ _) (by simp [Value.oneCell']) HMAX.out HBYT.out HBASE.out ?_; intro v' w1 hown1 hg1 hz1)
        obtain ⟨E', r', rfl⟩ := own_shape hown1
        have HO1 := Lib.hid hown1
        have HBN := Lib.hid (HB1.out.grown hg1 HBASE.out (fun kk hkk => (HOW.out.lt kk hkk).1))
        clear hown1 hg1 hz1
        go_roundw
        case rel => exact ⟨x + 1, E', r', by omega, by go_num, rfl, by rw [HNX.out, HV.out]; exact HO1.out, HBN.out⟩
        case measure => simp [intOf]; omega
      · have hbe : (a / 2 == (i : Int)) = false := by simp [hc1]
        by_cases hc2 : a / 2 = (j : Int)
        · have HV : Hid (swK i j a = a + 2 * ((i : Int) - j)) := by show _ = _; rw [HSK.out, if_neg hc1, if_pos hc2]
          have hwv : IntKind.i64.wrap (a + 2 * ((i : Int) - (j : Int))) = a + 2 * ((i : Int) - j) := IntWalk.i64_in _ (by omega)
          have hbe2 : (a / 2 == (j : Int)) = true := by simp [hc2]
          clear hrg
          have HOW := Lib.hid (HOWN.out.alloc (.cells #[.int .i64 (a + 2 * ((i : Int) - j))] 3))
          have HB1 := Lib.hid (HB.out.alloc HB.out.size (.cells #[.int .i64 (a + 2 * ((i : Int) - j))] 3))
          have HBASE := Lib.hid (show w.heap.size ≤ (wr.alloc (.cells #[.int .i64 (a + 2 * ((i : Int) - j))] 3)).heap.size by simp; omega)
          clear HSK
          go_wp2_with (at_builtin; refine wpList_append_own _ rfl (.tmp 36) (.tmp 38) 40 rfl w.heap.size 3 i0 (.int .i64 0) 1 8 Try.underlying40 HI.out HZ0.out HZ1.out HZ2.out rfl (by decide) (.slice E x r) x (nums ((l.map (swK i j)).take x)) rfl HOW.out ⟨wr.heap.size, 0, none⟩ 1 1 [.int .i64 (a + 2 * ((i : Int) - j))] rfl rfl (cell_one_new _ _ _) (by simp [Value.oneCell']) HMAX.out HBYT.out HBASE.out ?_; intro v' w1 hown1 hg1 hz1)
          obtain ⟨E', r', rfl⟩ := own_shape hown1
          have HO1 := Lib.hid hown1
          have HBN := Lib.hid (HB1.out.grown hg1 HBASE.out (fun kk hkk => (HOW.out.lt kk hkk).1))
          clear hown1 hg1 hz1
          go_roundw
          case rel => exact ⟨x + 1, E', r', by omega, by go_num, rfl, by rw [HNX.out, HV.out]; exact HO1.out, HBN.out⟩
          case measure => simp [intOf]; omega
        · have HV : Hid (swK i j a = a) := by show _ = _; rw [HSK.out, if_neg hc1, if_neg hc2]
          have hbe2 : (a / 2 == (j : Int)) = false := by simp [hc2]
          clear hrg
          have HOW := Lib.hid (HOWN.out.alloc (.cells #[.int .i64 (a)] 3))
          have HB1 := Lib.hid (HB.out.alloc HB.out.size (.cells #[.int .i64 (a)] 3))
          have HBASE := Lib.hid (show w.heap.size ≤ (wr.alloc (.cells #[.int .i64 (a)] 3)).heap.size by simp; omega)
          clear HSK
          go_wp2_with (at_builtin; refine wpList_append_own _ rfl (.tmp 36) (.tmp 38) 40 rfl w.heap.size 3 i0 (.int .i64 0) 1 8 Try.underlying40 HI.out HZ0.out HZ1.out HZ2.out rfl (by decide) (.slice E x r) x (nums ((l.map (swK i j)).take x)) rfl HOW.out ⟨wr.heap.size, 0, none⟩ 1 1 [.int .i64 (a)] rfl rfl (cell_one_new _ _ _) (by simp [Value.oneCell']) HMAX.out HBYT.out HBASE.out ?_; intro v' w1 hown1 hg1 hz1)
          obtain ⟨E', r', rfl⟩ := own_shape hown1
          have HO1 := Lib.hid hown1
          have HBN := Lib.hid (HB1.out.grown hg1 HBASE.out (fun kk hkk => (HOW.out.lt kk hkk).1))
          clear hown1 hg1 hz1
          go_roundw
          case rel => exact ⟨x + 1, E', r', by omega, by go_num, rfl, by rw [HNX.out, HV.out]; exact HO1.out, HBN.out⟩
          case measure => simp [intOf]; omega
    · obtain rfl : x = l.length := by omega
      have hxd : decide ((l.length : Int) < (l.length : Int)) = false := by simp
      rw [show (l.map (swK i j)).take l.length = l.map (swK i j) by rw [List.take_of_length_le (by simp)]] at hown
      obtain ⟨E', r', hv, hf⟩ := Fresh.of_own hown (Nat.le_refl _)
      simp only [Value.slice.injEq, true_and] at hv
      obtain ⟨rfl, rfl⟩ := hv
      have HB := Lib.hid hb
      have HF := Lib.hid hf
      clear hown hb hf
      go_wp2_with fail
      refine (sliceSort_any E l.length r w.heap.size wr.heap.size (l.map (swK i j)) _ HF.out (by simp) (by omega) (by omega)).mono ?_
      rintro e w1 ⟨rfl, hsp, hf1⟩
      rw [← HSW.out] at hf1
      have hsz : wr.heap.size ≤ w1.heap.size := hsp.size
      have HBN := Lib.hid (hsp.below HB.out (Nat.le_refl _) HB.out.size)
      have HF1 := Lib.hid (hf1.more (lo' := w.heap.size) (hi' := w1.heap.size) (Nat.le_refl _) hsz)
      clear hsp hf1
      go_wp2
      go_ret
      exact ⟨E, r, rfl, HF1.out, HBN.out⟩
end Go.Proofs.Ytkdjdnknhbmliaa

namespace Go.Proofs.Ytkdjdnknhbmliaa
open Go.RowKit

/-- A row of a grid, told at its place. -/
theorem grid_rowS {w : World} {A : Option Addr} {rs : List RowV} (h : Grid w A rs) {k : Nat} (hk : k < rs.length) : ∃ b o, A = some ⟨b, o, none⟩ ∧ b < w.heap.size ∧ w.cell? ⟨b, o + k, none⟩ = some (.slice rs[k].A rs[k].n rs[k].c) ∧ Holds w rs[k].A (nums rs[k].xs) ∧ rs[k].xs.length = rs[k].n ∧ rs[k].n ≤ 9223372036854775807 := by
  obtain ⟨b, o, rfl, hb, hc⟩ := h.1.look (k := k) (by rw [rowVals_len]; exact hk)
  have hok := h.2 rs[k] (List.getElem_mem hk)
  refine ⟨b, o, rfl, hb, ?_, hok.1, hok.2.1, hok.2.2⟩
  rw [hc]
  simp [rowVals, RowV.val]
theorem plan_trips' {k : Nat} {q : Int} {e : Nat} : ∀ {ls : List (List Int)} {x : Nat}, planM k q e x ls = true → ∀ l ∈ ls, ∃ y, tripM k q y l = true
  | [], _, _, l, hl => by cases hl
  | a :: ls, x, h, l, hl => by
    rw [planM, Bool.and_eq_true] at h
    rcases List.mem_cons.1 hl with rfl | hl
    · exact ⟨x, h.1⟩
    · exact plan_trips' h.2 l hl
/-- The rows of a calm plan: rising lists of at most four of eight people. -/
def RowsOk (ls : List (List Int)) : Prop := ∀ l ∈ ls, StepsTo l 7 l.length ∧ 1 ≤ l.length ∧ l.length ≤ 4
theorem isCP_rows {a b : Int} {ls : List (List Int)} (h : isCP a b ls = true) : RowsOk ls ∧ 1 ≤ a ∧ a ≤ 4 ∧ ls.length ≤ 40 := by
  simp only [isCP, cpOk, Bool.and_eq_true, decide_eq_true_eq] at h
  obtain ⟨⟨hco, h40⟩, hp⟩ := h
  obtain ⟨⟨ha1, ha4⟩, hb1, hb4⟩ := isCo_iff.1 hco
  refine ⟨fun l hl => ?_, ha1, ha4, h40⟩
  obtain ⟨y, hy⟩ := plan_trips' hp l hl
  have hm := trip_mask (by omega) hy
  simp only [tripM, Bool.and_eq_true] at hy
  have hw := within_iff.1 hy.1
  refine ⟨fun j hj => ?_, by omega, by omega⟩
  obtain ⟨s1, s2, s3⟩ := hm.1 j hj
  exact ⟨s1, by omega, s3⟩
noncomputable def okSw (a b i j : Int) (ls : List (List Int)) : Bool := isCP a b ls && (within i 0 (a - 1) && within j 0 (a - 1))
noncomputable def swLs (a b i j : Int) (ls : List (List Int)) : List (List Int) := if okSw a b i j ls then ls.map (swL i.toNat j.toNat) else []
theorem sw_no {a b i j : Int} {ls : List (List Int)} (h : okSw a b i j ls = false) : swLs a b i j ls = [] := by simp [swLs, h]
theorem sw_yes {a b : Int} {i j : Nat} {ls : List (List Int)} (h : okSw a b i j ls = true) : swLs a b i j ls = ls.map (swL i j) := by simp [swLs, h]
theorem okSw_iff {a b i j : Int} {ls : List (List Int)} : okSw a b i j ls = true ↔ isCP a b ls = true ∧ 0 ≤ i ∧ i < a ∧ 0 ≤ j ∧ j < a := by
  simp only [okSw, Bool.and_eq_true, within_iff]
  constructor
  · rintro ⟨h1, ⟨h2, h3⟩, h4, h5⟩; exact ⟨h1, h2, by omega, h4, by omega⟩
  · rintro ⟨h1, h2, h3, h4, h5⟩; exact ⟨h1, ⟨h2, by omega⟩, h4, by omega⟩
theorem swLs_le (a b i j : Int) (ls : List (List Int)) : (swLs a b i j ls).length ≤ 1048576 ∧ ((swLs a b i j ls).map List.length).sum ≤ 1048576 := by
  by_cases h : okSw a b i j ls = true
  · obtain ⟨h1, h2, h3, h4, h5⟩ := okSw_iff.1 h
    obtain ⟨hr, ha1, ha4, h40⟩ := isCP_rows h1
    obtain ⟨i', rfl⟩ := Int.eq_ofNat_of_zero_le h2
    obtain ⟨j', rfl⟩ := Int.eq_ofNat_of_zero_le h4
    rw [sw_yes h]
    have hs : ∀ r : List (List Int), RowsOk r → ((r.map (swL i' j')).map List.length).sum ≤ 4 * r.length := by
      intro r
      induction r with
      | nil => intro _; simp
      | cons x r ih =>
        intro hx
        obtain ⟨e1, e2, e3⟩ := hx x (List.mem_cons_self ..)
        have := ih fun y hy => hx y (List.mem_cons_of_mem _ hy)
        rw [List.map_cons, List.map_cons, List.sum_cons, swL_len (by omega) (by omega) e1 e2 e3, List.length_cons]
        omega
    have := hs ls hr
    exact ⟨by rw [List.length_map]; omega, by omega⟩
  · rw [sw_no (by simpa using h)]
    simp

set_option maxHeartbeats 12800000 in
set_option maxRecDepth 100000 in
theorem implSwap_any (a b i j : Int) (D : Option Addr) (n z : Nat) (rs : List RowV) (w : World) (hD : Grid w D rs) (hz : rs.length = n) (hn : n ≤ 9223372036854775807) :
    Calls Try.prog 33 #[.agg #[.int .i64 a, .int .i64 b], .slice D n z, .int .i64 i, .int .i64 j] w (BackPost (swLs a b i j (rowNums rs)) (okSw a b i j (rowNums rs)) w) := by
  obtain ⟨i0, hi0, hz0, hz1, hz2⟩ := info_parts info_row
  have HI := Lib.hid hi0
  have HZ0 := Lib.hid hz0
  have HZ1 := Lib.hid hz1
  have HZ2 := Lib.hid hz2
  have HZ := Lib.hid hz
  have HLS := Lib.hid (rowNums_len rs)
  have h0 := Whole.fresh w 31 #[.int .i64 a, .int .i64 b]
  have hbw := below1 w (.cells #[.int .i64 a, .int .i64 b] 31)
  have hD2 := hD.below hbw
  have HG := Lib.hid hD
  clear hi0 hz0 hz1 hz2 hz hD
  go_enter Try.func33, Try.ntmps33
  go_wp2_with fail
  refine (implIsCalmPlan_any D n z a b rs _ hD2 HZ.out hn).mono ?_
  rintro e w1 ⟨rfl, hb⟩
  have ht := below_then hbw hb (by simp)
  obtain ⟨c0, c1, -, -⟩ := (h0.below hb).two
  clear hb h0 hbw hD2
  cases hcp : isCP a b (rowNums rs)
  · have HF : Hid (okSw a b i j (rowNums rs) = false) := by show _ = _; rw [okSw, hcp]; rfl
    clear hcp
    go_wp2
    go_ret2
    rw [sw_no HF.out, HF.out]
    exact BackPost.no ht
  · by_cases hok : 0 ≤ i ∧ i < a ∧ 0 ≤ j ∧ j < a
    rotate_left
    · have HF : Hid (okSw a b i j (rowNums rs) = false) := by
        show _ = _
        cases h : okSw a b i j (rowNums rs)
        · rfl
        · exact absurd (okSw_iff.1 h).2 hok
      clear hcp
      obtain ⟨g5, g6⟩ | ⟨g5, g6⟩ | ⟨g5, g6⟩ : (i ≤ j ∧ i < j) ∨ (i ≤ j ∧ ¬ i < j) ∨ (¬ i ≤ j ∧ ¬ i < j) := by omega
      all_goals (by_cases g1 : i < 0 <;> by_cases g2 : j < 0 <;> by_cases g3 : a ≤ i <;> by_cases g4 : a ≤ j)
      all_goals first
        | (exfalso; omega)
        | (clear hok; go_wp2; go_ret2; rw [sw_no HF.out, HF.out]; exact BackPost.no ht)
    · have HT : Hid (okSw a b i j (rowNums rs) = true) := okSw_iff.2 ⟨hcp, hok⟩
      obtain ⟨hrw, ha1, ha4, h40⟩ := isCP_rows hcp
      obtain ⟨i', rfl⟩ := Int.eq_ofNat_of_zero_le hok.1
      obtain ⟨j', rfl⟩ := Int.eq_ofNat_of_zero_le hok.2.2.1
      have hi4 : i' < 4 := by omega
      have hj4 : j' < 4 := by omega
      have HSW := Lib.hid (sw_yes HT.out)
      have HRW := Lib.hid hrw
      have hn40 : n ≤ 40 := by have := HLS.out; have := HZ.out; omega
      have g1 : ¬ (i' : Int) < 0 := by omega
      have g2 : ¬ (j' : Int) < 0 := by omega
      have g3 : ¬ a ≤ (i' : Int) := by omega
      have g4 : ¬ a ≤ (j' : Int) := by omega
      clear hcp hok hrw h40
      obtain ⟨g5, g6⟩ | ⟨g5, g6⟩ | ⟨g5, g6⟩ : ((i' : Int) ≤ j' ∧ (i' : Int) < j') ∨ ((i' : Int) ≤ j' ∧ ¬ (i' : Int) < j') ∨ (¬ (i' : Int) ≤ j' ∧ ¬ (i' : Int) < j') := by omega
      all_goals
        go_wp2
        clear g1 g2 g3 g4 g5 g6 c0 c1
        go_loopw [12, 39] (fun v q wr => ∃ (x : Nat) (E : Option Addr) (d : Nat) (acc : List RowV), x ≤ n ∧ q = .int .i64 x ∧ v = .slice E acc.length d ∧ rowNums acc = ((rowNums rs).take x).map (swL i' j') ∧ Heads wr w.heap.size E d acc ∧ Below w.heap.size w wr) (fun _ q _ => n - (intOf q).toNat)
        case atStart => exact ⟨0, none, 0, [], Nat.zero_le _, rfl, rfl, by simp [rowNums], Heads.nil _ _, ht⟩
        case round =>
          clear ht
          obtain ⟨x, E, d, acc, hx, rfl, rfl, hra, hh, hb⟩ := hrel
          have hacc : acc.length ≤ 40 := by have h2 := congrArg List.length hra; rw [rowNums_len, List.length_map, List.length_take] at h2; omega
          have HRA := Lib.hid hra
          have HH := Lib.hid hh
          have HB := Lib.hid hb
          have hbs := hb.size
          by_cases hlt : x < n
          · have hlt2 : x < rs.length := by have := HZ.out; omega
            obtain ⟨bb, o, rfl, hbl, hc, hrow, hrl, hrn⟩ := grid_rowS (HG.out.below hb) hlt2
            have hxl : x < (rowNums rs).length := by rw [rowNums_len]; exact hlt2
            have hget : (rowNums rs)[x] = rs[x].xs := by simp [rowNums]
            have HRX := Lib.hid (HRW.out _ (List.getElem_mem hxl))
            have HNX : Hid (((rowNums rs).take (x + 1)).map (swL i' j') = ((rowNums rs).take x).map (swL i' j') ++ [swL i' j' (rowNums rs)[x]]) := by
              show _ = _
              rw [List.take_succ_eq_append_getElem hxl, List.map_append]
              rfl
            rw [hget] at HRX HNX
            obtain ⟨R, hR⟩ : ∃ R, R = rs[x] := ⟨_, rfl⟩
            rw [← hR] at hc hrow hrl hrn HRX HNX
            obtain ⟨rA, rn, rc, l⟩ := R
            replace hc : World.cell? wr ⟨bb, o + x, none⟩ = some (.slice rA rn rc) := hc
            replace hrl : l.length = rn := hrl
            subst hrl
            have HR : Hid (Holds wr rA (nums l)) := hrow
            obtain ⟨hst, hl1, hl4⟩ : StepsTo l 7 l.length ∧ 1 ≤ l.length ∧ l.length ≤ 4 := HRX.out
            have HST := Lib.hid hst
            have HSL := Lib.hid (swL_len hi4 hj4 hst hl1 hl4)
            clear hra hh hb hrow hrn hR hget HRX hst hlt2 hxl
            go_wp2_with fail
            refine (swapped_any rA l.length rc l i' j' _ HR.out rfl hi4 hj4 HST.out hl1 hl4).mono ?_
            rintro e w2 ⟨E2, r2, rfl, hf2, hb2⟩
            have hs2 : wr.heap.size ≤ w2.heap.size := hb2.size
            have HB2 := Lib.hid hb2
            have HF2 := Lib.hid hf2
            have HOWN := Lib.hid ((HH.out.below hb2).alloc (.cells #[.slice E2 l.length r2] 40)).1
            have HMAX := Lib.hid (show acc.length + 1 ≤ maxLen by unfold maxLen; omega)
            have HBYT := Lib.hid (show (acc.length + 1) * 24 ≤ 140737488355328 by omega)
            have HBASE := Lib.hid (show w.heap.size ≤ (w2.alloc (.cells #[.slice E2 l.length r2] 40)).heap.size by simp; omega)
            clear hb2 hf2 hc
            go_wp2_with (at_builtin; refine wpList_append_lies _ rfl (.tmp 43) (.tmp 48) 28 rfl w.heap.size 40 i0 (.slice none 0 0) 1 24 Try.underlying28 HI.out HZ0.out HZ1.out HZ2.out rfl (by decide) (.slice E acc.length d) acc.length (rowVals acc) rfl HOWN.out ⟨w2.heap.size, 0, none⟩ 1 1 [.slice E2 l.length r2] rfl rfl (cell_one_new _ _ _) (by simp [Value.oneCell']) (by decide) HMAX.out HBYT.out HBASE.out (w2.heap.size + 1) (by simp) ?_; intro g cap w4 hown4 hg4 hat hlt4)
            have HP2 := Lib.hid (Heads.push (r := ⟨E2, l.length, r2, swL i' j' l⟩) HH.out hbs HB2.out HF2.out HSL.out (by show l.length ≤ _; omega) hown4 hg4 hat)
            have HBN := Lib.hid (((below_then HB.out HB2.out hbs).alloc (by omega) (.cells #[.slice E2 l.length r2] 40)).grown hg4 HBASE.out (fun kk hkk => (HOWN.out.lt kk hkk).1))
            clear hown4 hg4 hat hlt4
            go_roundw
            case rel => exact ⟨x + 1, some ⟨g, 0, none⟩, cap, acc ++ [⟨E2, l.length, r2, swL i' j' l⟩], by omega, by go_num, by simp, by rw [HNX.out, show rowNums (acc ++ [⟨E2, l.length, r2, swL i' j' l⟩]) = rowNums acc ++ [swL i' j' l] by simp [rowNums], HRA.out], HP2.out, HBN.out⟩
            case measure => simp [intOf]; omega
          · obtain rfl : x = n := by omega
            have HR2 : Hid (rowNums acc = (rowNums rs).map (swL i' j')) := by
              show _ = _
              rw [HRA.out, List.take_of_length_le (by have := HLS.out; have := HZ.out; omega)]
            have HFR := Lib.hid hh.free
            clear hra hh hb HRA
            go_wp2
            go_ret2
            rw [HSW.out, HT.out]
            exact ⟨E, acc.length, d, acc, rfl, HR2.out, rfl, HFR.out, HB.out⟩
end Go.Proofs.Ytkdjdnknhbmliaa

namespace Go.Proofs.Ytkdjdnknhbmliaa
open Go.RowKit

theorem sw_mask_small {i j : Nat} {l : List Int} (hi : i < 4) (hj : j < 4) (hs : StepsTo l 7 l.length) (x : Nat) : maskOf ((l.map (swK i j)).take x) < 256 :=
  mask_lt (n := 8) (by decide) _ fun y hy => by
    obtain ⟨z, hz, rfl⟩ := List.mem_map.1 (List.mem_of_mem_take hy)
    have hm := mem_steps hs hz
    have := sw_range hi hj hm.1 hm.2
    show swK i j z < 8
    omega

set_option maxHeartbeats 12800000 in
set_option maxRecDepth 100000 in
theorem specSwap_any (a b i j : Int) (D : Option Addr) (n z : Nat) (rs : List RowV) (w : World) (hD : Grid w D rs) (hz : rs.length = n) (hn : n ≤ 9223372036854775807) :
    Calls Try.prog 31 #[.agg #[.int .i64 a, .int .i64 b], .slice D n z, .int .i64 i, .int .i64 j] w (BackPost (swLs a b i j (rowNums rs)) (okSw a b i j (rowNums rs)) w) := by
  obtain ⟨i0, hi0, hz0, hz1, hz2⟩ := info_parts info_row
  have HI := Lib.hid hi0
  have HZ0 := Lib.hid hz0
  have HZ1 := Lib.hid hz1
  have HZ2 := Lib.hid hz2
  have HZ := Lib.hid hz
  have HLS := Lib.hid (rowNums_len rs)
  have h0 := Whole.fresh w 31 #[.int .i64 a, .int .i64 b]
  have hbw := below1 w (.cells #[.int .i64 a, .int .i64 b] 31)
  have hD2 := hD.below hbw
  have HG := Lib.hid hD
  clear hi0 hz0 hz1 hz2 hz hD
  go_enter Try.func31, Try.ntmps31
  go_wp2_with fail
  refine (cuGood_any a b _).mono ?_
  rintro e w1 ⟨rfl, hb⟩
  have ht := below_then hbw hb (by simp)
  have h1 := h0.below hb
  have hD3 := hD2.below hb
  obtain ⟨c0, c1, -, -⟩ := h1.two
  clear hb h0 hbw hD2
  cases hp : isCo a b
  · have HF : Hid (okSw a b i j (rowNums rs) = false) := by show _ = _; rw [okSw, (cp_no (.inl hp)).2]; rfl
    clear hp
    go_wp2
    go_ret2
    rw [sw_no HF.out, HF.out]
    exact BackPost.no ht
  · by_cases h40 : 40 < n
    · have HF : Hid (okSw a b i j (rowNums rs) = false) := by show _ = _; rw [okSw, (cp_no (.inr (by have := HLS.out; have := HZ.out; omega))).2]; rfl
      have hd : decide ((n : Int) > 40) = true := by simp; omega
      clear hp
      go_wp2
      go_ret2
      rw [sw_no HF.out, HF.out]
      exact BackPost.no ht
    · obtain ⟨⟨ha1, ha4⟩, hb1, hb4⟩ := isCo_iff.1 hp
      obtain ⟨k, rfl⟩ : ∃ k : Nat, a = k := ⟨a.toNat, by omega⟩
      have hd : decide ((n : Int) > 40) = false := by simp; omega
      have hk4 : k ≤ 4 := by omega
      have HCP := Lib.hid ((cp_yes (ls := rowNums rs) hp (by have := HLS.out; have := HZ.out; omega)).2)
      have hkw : IntKind.i64.wrap ((k : Int) - 1) = (k : Int) - 1 := IntWalk.i64_in _ (by omega)
      clear hp hb1 hb4
      go_wp2_with fail
      refine (cuPlan_any k b D n z rs _ hk4 hD3 HZ.out hn).mono ?_
      rintro e w2 ⟨rfl, hb⟩
      rw [← HCP.out]
      replace ht := below_then ht hb ht.size
      obtain ⟨d0, d1, -, -⟩ := (h1.below hb).two
      clear hb c0 c1 h1 hD3
      cases hcp : isCP k b (rowNums rs)
      · have HF : Hid (okSw k b i j (rowNums rs) = false) := by show _ = _; rw [okSw, hcp]; rfl
        clear hcp
        go_wp2
        go_ret2
        rw [sw_no HF.out, HF.out]
        exact BackPost.no ht
      · cases hwi : within i 0 (k - 1)
        · have HF : Hid (okSw k b i j (rowNums rs) = false) := by show _ = _; rw [okSw, hwi]; simp
          have HWI := Lib.hid hwi
          clear hcp hwi
          go_wp2_with (go_at_call 81; refine (l1In_any _ _ _ _).mono ?_; rintro e w' ⟨rfl, rfl⟩; rw [HWI.out])
          go_ret2
          rw [sw_no HF.out, HF.out]
          exact BackPost.no ht
        · cases hwj : within j 0 (k - 1)
          · have HF : Hid (okSw k b i j (rowNums rs) = false) := by show _ = _; rw [okSw, hwj]; simp
            have HWI := Lib.hid hwi
            have HWJ := Lib.hid hwj
            clear hcp hwi hwj
            go_wp2_with (go_at_call 81; refine (l1In_any _ _ _ _).mono ?_; rintro e w' ⟨rfl, rfl⟩; first | rw [HWI.out] | rw [HWJ.out])
            go_ret2
            rw [sw_no HF.out, HF.out]
            exact BackPost.no ht
          · have HT : Hid (okSw k b i j (rowNums rs) = true) := by show _ = _; rw [okSw, hcp, hwi, hwj]; rfl
            obtain ⟨hrw, -, -, -⟩ := isCP_rows hcp
            have hii := within_iff.1 hwi
            have hjj := within_iff.1 hwj
            obtain ⟨i', rfl⟩ := Int.eq_ofNat_of_zero_le hii.1
            obtain ⟨j', rfl⟩ := Int.eq_ofNat_of_zero_le hjj.1
            have hi4 : i' < 4 := by omega
            have hj4 : j' < 4 := by omega
            have HSW := Lib.hid (sw_yes HT.out)
            have HRW := Lib.hid hrw
            have HWI := Lib.hid hwi
            have HWJ := Lib.hid hwj
            have hn40 : n ≤ 40 := by omega
            have HTT := Lib.hid ht
            clear hcp hwi hwj hrw h40 hii hjj
            go_wp2_with (go_at_call 81; refine (l1In_any _ _ _ _).mono ?_; rintro e w' ⟨rfl, rfl⟩; first | rw [HWI.out] | rw [HWJ.out])
            clear d0 d1 ht
            go_loopw [10, 49] (fun v q wr => ∃ (x : Nat) (E : Option Addr) (d : Nat) (acc : List RowV), x ≤ n ∧ q = .int .i64 x ∧ v = .slice E acc.length d ∧ rowNums acc = ((rowNums rs).take x).map (swL i' j') ∧ Heads wr w.heap.size E d acc ∧ Below w.heap.size w wr) (fun _ q _ => n - (intOf q).toNat)
            case atStart => exact ⟨0, none, 0, [], Nat.zero_le _, rfl, rfl, by simp [rowNums], Heads.nil _ _, HTT.out⟩
            case round =>
              obtain ⟨w5, rfl⟩ : ∃ w5 : World, w5 = wr := ⟨_, rfl⟩
              obtain ⟨x, E, d, acc, hx, rfl, rfl, hra, hh, hb⟩ := hrel
              have hacc : acc.length ≤ 40 := by have h2 := congrArg List.length hra; rw [rowNums_len, List.length_map, List.length_take] at h2; omega
              have HRA := Lib.hid hra
              have HH := Lib.hid hh
              have HB := Lib.hid hb
              have hbs := hb.size
              by_cases hlt : x < n
              · have hlt2 : x < rs.length := by have := HZ.out; omega
                obtain ⟨bb, o, rfl, hbl, hc, hrow, hrl, hrn⟩ := grid_rowS (HG.out.below hb) hlt2
                have hxl : x < (rowNums rs).length := by rw [rowNums_len]; exact hlt2
                have hget : (rowNums rs)[x] = rs[x].xs := by simp [rowNums]
                have HRX := Lib.hid (HRW.out _ (List.getElem_mem hxl))
                have HNX : Hid (((rowNums rs).take (x + 1)).map (swL i' j') = ((rowNums rs).take x).map (swL i' j') ++ [swL i' j' (rowNums rs)[x]]) := by
                  show _ = _
                  rw [List.take_succ_eq_append_getElem hxl, List.map_append]
                  rfl
                rw [hget] at HRX HNX
                obtain ⟨R, hR⟩ : ∃ R, R = rs[x] := ⟨_, rfl⟩
                rw [← hR] at hc hrow hrl hrn HRX HNX
                obtain ⟨rA, rn, rc, l⟩ := R
                replace hc : World.cell? w5 ⟨bb, o + x, none⟩ = some (.slice rA rn rc) := hc
                replace hrl : l.length = rn := hrl
                subst hrl
                have HR : Hid (Holds w5 rA (nums l)) := hrow
                obtain ⟨hst, hl1, hl4⟩ : StepsTo l 7 l.length ∧ 1 ≤ l.length ∧ l.length ≤ 4 := HRX.out
                have HST := Lib.hid hst
                have HSL := Lib.hid (swL_len hi4 hj4 hst hl1 hl4)
                have HMS := Lib.hid (sw_mask_small hi4 hj4 hst)
                clear hra hh hb hrow hrn hR hget HRX hst hlt2 hxl
                go_wp2
                go_loopw [13, 55] (fun v q wr => ∃ y : Nat, y ≤ l.length ∧ q = .int .i64 y ∧ v = .int .i64 (maskOf ((l.map (swK i' j')).take y) : Nat) ∧ Below w5.heap.size w5 wr) (fun _ q _ => l.length - (intOf q).toNat)
                case atStart => exact ⟨0, Nat.zero_le _, rfl, rfl, Below.refl _ _⟩
                case round =>
                  obtain ⟨w6, rfl⟩ : ∃ w6 : World, w6 = wr := ⟨_, rfl⟩
                  obtain ⟨y, hy, rfl, rfl, hb6⟩ := hrel
                  by_cases hly : y < l.length
                  · have hdy : decide ((y : Int) < (l.length : Int)) = true := by simp; omega
                    obtain ⟨b7, o7, rfl, hbl7, hc7⟩ := (HR.out.below hb6).look (k := y) (by simpa [nums] using hly)
                    simp only [nums, List.getElem_map] at hc7
                    obtain ⟨h0, h7, -⟩ : Step l 7 y := HST.out y hly
                    rw [getD_at l hly] at h0 h7
                    have hms := HMS.out y
                    have hrg := sw_range hi4 hj4 h0 h7
                    have HNY : Hid (maskOf ((l.map (swK i' j')).take (y + 1)) = maskOf ((l.map (swK i' j')).take y) ||| 2 ^ (swK i' j' l[y]).toNat) := by
                      show _ = _
                      rw [mask_next (by simpa using hly)]
                      simp
                    have HSK : Hid (swK i' j' l[y] = if l[y] / 2 = i' then l[y] + 2 * ((j' : Int) - i') else if l[y] / 2 = j' then l[y] + 2 * ((i' : Int) - j') else l[y]) := rfl
                    generalize l[y] = p at hc7 h0 h7 hrg HNY HSK
                    obtain ⟨t, htt⟩ : ∃ t : Nat, swK i' j' p = t := ⟨(swK i' j' p).toNat, by omega⟩
                    rw [htt] at HNY HSK hrg
                    rw [Int.toNat_natCast] at HNY
                    have ht7 : t ≤ 7 := by omega
                    have hor : Go.bits .or .i64 ((maskOf ((l.map (swK i' j')).take y) : Nat) : Int) (wrap64 ((2 : Int) ^ t)) = ((maskOf ((l.map (swK i' j')).take (y + 1)) : Nat) : Int) := by
                      rw [wrap_pow ht7, bits_or_nat _ _ (by omega) (pow_small ht7), HNY.out]
                    have HB6 := Lib.hid hb6
                    have HOR := Lib.hid hor
                    have hsk := HSK.out
                    clear hb6 HNY htt hrg hms hor
                    by_cases hc1 : p / 2 = (i' : Int)
                    · rw [if_pos hc1] at hsk
                      have hbe : (p / 2 == (i' : Int)) = true := by simp [hc1]
                      have hw1 : IntKind.i64.wrap (2 * ((j' : Int))) = 2 * ((j' : Int)) := IntWalk.i64_in _ (by omega)
                      have hw2 : IntKind.i64.wrap (2 * ((j' : Int)) + p % 2) = (t : Int) := by rw [IntWalk.i64_in _ (by omega)]; omega
                      clear HSK hsk
                      go_wp2
                      go_roundw
                      case rel => exact ⟨y + 1, by omega, by go_num, by rw [HOR.out], HB6.out⟩
                      case measure => simp [intOf]; omega
                    · rw [if_neg hc1] at hsk
                      have hbe : (p / 2 == (i' : Int)) = false := by simp [hc1]
                      by_cases hc2 : p / 2 = (j' : Int)
                      · rw [if_pos hc2] at hsk
                        have hbe2 : (p / 2 == (j' : Int)) = true := by simp [hc2]
                        have hw1 : IntKind.i64.wrap (2 * ((i' : Int))) = 2 * ((i' : Int)) := IntWalk.i64_in _ (by omega)
                        have hw2 : IntKind.i64.wrap (2 * ((i' : Int)) + p % 2) = (t : Int) := by rw [IntWalk.i64_in _ (by omega)]; omega
                        clear HSK hsk
                        go_wp2
                        go_roundw
                        case rel => exact ⟨y + 1, by omega, by go_num, by rw [HOR.out], HB6.out⟩
                        case measure => simp [intOf]; omega
                      · rw [if_neg hc2] at hsk
                        have hbe2 : (p / 2 == (j' : Int)) = false := by simp [hc2]
                        have hw1 : IntKind.i64.wrap (2 * (p / 2)) = 2 * (p / 2) := IntWalk.i64_in _ (by omega)
                        have hw2 : IntKind.i64.wrap (2 * (p / 2) + p % 2) = (t : Int) := by rw [IntWalk.i64_in _ (by omega)]; omega
                        clear HSK hsk
                        go_wp2
                        go_roundw
                        case rel => exact ⟨y + 1, by omega, by go_num, by rw [HOR.out], HB6.out⟩
                        case measure => simp [intOf]; omega
                  · obtain rfl : y = l.length := by omega
                    have hdy : decide ((l.length : Int) < (l.length : Int)) = false := by simp
                    have hbs6 := hb6.size
                    have HB6 := Lib.hid hb6
                    have hmk := HMS.out l.length
                    have HTK : Hid ((l.map (swK i' j')).take l.length = l.map (swK i' j')) := by show _ = _; rw [List.take_of_length_le (by simp)]
                    rw [HTK.out] at hmk ⊢
                    have HLL : Hid (listOf (maskOf (l.map (swK i' j'))) = swL i' j' l) := rfl
                    have HLN : Hid ((listOf (maskOf (l.map (swK i' j')))).length = l.length) := by show _ = _; rw [HLL.out]; exact HSL.out
                    generalize maskOf (l.map (swK i' j')) = g at hmk HLL HLN ⊢
                    clear hb6 hc
                    go_wp2_with fail
                    refine (cuList_any g _ hmk).mono ?_
                    rintro e w2 ⟨E2, r2, rfl, hown2, hb2⟩
                    rw [HLN.out] at hown2 ⊢
                    rw [HLL.out] at hown2
                    have hs2 : w6.heap.size ≤ w2.heap.size := hb2.size
                    have HB2 := Lib.hid hb2
                    obtain ⟨A3, q3, hv3, hf3⟩ := Fresh.of_own hown2 (Nat.le_refl _)
                    simp only [Value.slice.injEq, true_and] at hv3
                    obtain ⟨rfl, rfl⟩ := hv3
                    have HF2 := Lib.hid hf3
                    have HOWN := Lib.hid (((HH.out.below HB6.out).below hb2).alloc (.cells #[.slice E2 l.length r2] 40)).1
                    have HMAX := Lib.hid (show acc.length + 1 ≤ maxLen by unfold maxLen; omega)
                    have HBYT := Lib.hid (show (acc.length + 1) * 24 ≤ 140737488355328 by omega)
                    have HBASE := Lib.hid (show w.heap.size ≤ (w2.alloc (.cells #[.slice E2 l.length r2] 40)).heap.size by simp; omega)
                    clear hb2 hf3 hown2
                    go_wp2_with (at_builtin; refine wpList_append_lies _ rfl (.tmp 79) (.tmp 82) 28 rfl w.heap.size 40 i0 (.slice none 0 0) 1 24 Try.underlying28 HI.out HZ0.out HZ1.out HZ2.out rfl (by decide) (.slice E acc.length d) acc.length (rowVals acc) rfl HOWN.out ⟨w2.heap.size, 0, none⟩ 1 1 [.slice E2 l.length r2] rfl rfl (cell_one_new _ _ _) (by simp [Value.oneCell']) (by decide) HMAX.out HBYT.out HBASE.out (w2.heap.size + 1) (by simp) ?_; intro g4 cap w4 hown4 hg4 hat hlt4)
                    have HP2 := Lib.hid (Heads.push (r := ⟨E2, l.length, r2, swL i' j' l⟩) (HH.out.below HB6.out) (by omega) HB2.out HF2.out HSL.out (by show l.length ≤ _; omega) hown4 hg4 hat)
                    have HBN := Lib.hid (((below_then (below_then HB.out HB6.out hbs) HB2.out (by omega)).alloc (by omega) (.cells #[.slice E2 l.length r2] 40)).grown hg4 HBASE.out (fun kk hkk => (HOWN.out.lt kk hkk).1))
                    clear hown4 hg4 hat hlt4
                    go_roundw
                    case rel => exact ⟨x + 1, some ⟨g4, 0, none⟩, cap, acc ++ [⟨E2, l.length, r2, swL i' j' l⟩], by omega, by go_num, by simp, by rw [HNX.out, show rowNums (acc ++ [⟨E2, l.length, r2, swL i' j' l⟩]) = rowNums acc ++ [swL i' j' l] by simp [rowNums], HRA.out], HP2.out, HBN.out⟩
                    case measure => simp [intOf]; omega
              · obtain rfl : x = n := by omega
                have hdx : decide ((x : Int) < (x : Int)) = false := by simp
                have HR2 : Hid (rowNums acc = (rowNums rs).map (swL i' j')) := by
                  show _ = _
                  rw [HRA.out, List.take_of_length_le (by have := HLS.out; have := HZ.out; omega)]
                have HFR := Lib.hid hh.free
                clear hra hh hb HRA
                go_wp2
                go_ret2
                rw [HSW.out, HT.out]
                exact ⟨E, acc.length, d, acc, rfl, HR2.out, rfl, HFR.out, HB.out⟩

theorem specSwap_on (a b i j : Int) (D : Option Addr) (n z : Nat) (rs : List RowV) (ls : List (List Int)) (w : World) (hD : Grid w D rs) (he : rowNums rs = ls) (hz : rs.length = n) (hn : n ≤ 9223372036854775807) :
    Calls Try.prog 31 #[.agg #[.int .i64 a, .int .i64 b], .slice D n z, .int .i64 i, .int .i64 j] w (BackPost (swLs a b i j ls) (okSw a b i j ls) w) :=
  he ▸ specSwap_any a b i j D n z rs w hD hz hn
theorem implSwap_on (a b i j : Int) (D : Option Addr) (n z : Nat) (rs : List RowV) (ls : List (List Int)) (w : World) (hD : Grid w D rs) (he : rowNums rs = ls) (hz : rs.length = n) (hn : n ≤ 9223372036854775807) :
    Calls Try.prog 33 #[.agg #[.int .i64 a, .int .i64 b], .slice D n z, .int .i64 i, .int .i64 j] w (BackPost (swLs a b i j ls) (okSw a b i j ls) w) :=
  he ▸ implSwap_any a b i j D n z rs w hD hz hn
end Go.Proofs.Ytkdjdnknhbmliaa

namespace Go.Proofs.Ytkdjdnknhbmliaa
open Go.RowKit

set_option maxHeartbeats 800000 in
set_option linter.unusedVariables false in
theorem lawSwapCouples_big0 (k0 : Int) (k1 : Int) (A0 : Option Addr) (n0 c0 : Nat) (x0 : List RowV) (k2 : Int) (k3 : Int) (w : World) (h0 : Grid w A0 x0) (hx0 : x0.length = n0) (hn0 : n0 ≤ 9223372036854775807)  (hbig : 1048576 - (total x0 : Int) < 0) :
    Calls Try.prog 5 #[.agg #[.int .i64 k0, .int .i64 k1], .slice A0 n0 c0, .int .i64 k2, .int .i64 k3] w fun e w' => e = .returned (.bool true) ∧ Below w.heap.size w w' := by
  have hb0 := (Whole.fresh w 23 #[.int .i64 k0, .int .i64 k1])
  have ht := below1 w (.cells #[.int .i64 k0, .int .i64 k1] 23)
  have HX0 := Lib.hid hx0
  clear hx0
  obtain ⟨hb0_0, hb0_1⟩ := hb0.cells2
  have hb0_l := hb0.lt
  go_enter Try.func5, Try.ntmps5
  go_wp2_with fail
  refine (szIntSS_any A0 n0 c0 x0 (1048576) _ (by exact h0.below ht) HX0.out (by omega) (by omega) (by omega)).mono ?_
  rintro e v1 ⟨rfl, rfl⟩
  rw [totalLeft, if_pos (by omega)]
  clear hb0_0 hb0_1 hb0_l
  go_wp2
  go_ret
  exact ⟨rfl, ht⟩

set_option maxHeartbeats 12800000 in
set_option maxRecDepth 100000 in
set_option linter.unusedSimpArgs false in
set_option linter.unusedVariables false in
theorem lawSwapCouples_small (k0 : Int) (k1 : Int) (A0 : Option Addr) (n0 c0 : Nat) (x0 : List RowV) (k2 : Int) (k3 : Int) (w : World) (h0 : Grid w A0 x0) (hx0 : x0.length = n0) (hn0 : n0 ≤ 9223372036854775807) (g0 : 0 ≤ 1048576 - (total x0 : Int)) :
    Calls Try.prog 5 #[.agg #[.int .i64 k0, .int .i64 k1], .slice A0 n0 c0, .int .i64 k2, .int .i64 k3] w fun e w' => e = .returned (.bool true) ∧ Below w.heap.size w w' := by
  have hb0 := (Whole.fresh w 23 #[.int .i64 k0, .int .i64 k1])
  have ht := below1 w (.cells #[.int .i64 k0, .int .i64 k1] 23)
  have HX0 := Lib.hid hx0
  clear hx0
  have hlen : (swLs k0 k1 k2 k3 (rowNums x0)).length ≤ 1048576 ∧ ((swLs k0 k1 k2 k3 (rowNums x0)).map List.length).sum ≤ 1048576 := swLs_le _ _ _ _ _
  obtain ⟨hb0_0, hb0_1⟩ := hb0.cells2
  have hb0_l := hb0.lt
  go_enter Try.func5, Try.ntmps5
  -- region 2
  go_wp2_with fail
  refine (szIntSS_any A0 n0 c0 x0 (1048576) _ (by exact h0.below ht) HX0.out (by omega) (by omega) (by omega)).mono ?_
  rintro e v1 ⟨rfl, rfl⟩
  rw [totalLeft, if_neg (by omega)]
  clear hb0_0 hb0_1 hb0_l
  obtain ⟨hb0_0, hb0_1⟩ := hb0.cells2
  have hb0_l := hb0.lt
  -- region 5
  go_wp2_with fail
  refine (toCompany_any k0 k1 _).mono ?_
  rintro e v1 ⟨rfl, hb⟩
  have hz1 : w.heap.size + 1 ≤ v1.heap.size := by have := hb.size; simpa using this
  replace ht := below_then ht hb ht.size
  replace hb0 := hb0.below hb
  clear hb
  clear hb0_0 hb0_1 hb0_l
  obtain ⟨hb0_0, hb0_1⟩ := hb0.cells2
  have hb0_l := hb0.lt
  go_wp2_with fail
  refine (toIntSS_any A0 n0 c0 x0 _ (by exact h0.below ht) HX0.out (by omega)).mono ?_
  rintro e v2 ⟨gp0, wsp0, rfl, hgp0, hwp0, hep0, hlp0, hb⟩
  have hz2 : v1.heap.size ≤ v2.heap.size := by have := hb.size; simpa using this
  replace ht := below_then ht hb ht.size
  replace hb0 := hb0.below hb
  have HEp0 := Lib.hid hep0
  have HLp0 := Lib.hid hlp0
  clear hep0 hlp0
  have hp0 := hwp0.free.more (lo' := v1.heap.size) (hi' := v2.heap.size) (by simpa using hgp0) (Nat.le_refl _)
  have hcapp0 : n0 ≤ 1048576 := by have := total_len x0; have := HX0.out; omega
  clear hgp0 hwp0
  clear hb
  clear hb0_0 hb0_1 hb0_l
  obtain ⟨hb0_0, hb0_1⟩ := hb0.cells2
  have hb0_l := hb0.lt
  go_wp2_with fail
  refine (specSwap_on k0 k1 k2 k3 _ n0 _ wsp0 (rowNums x0) _ (by exact hp0.grid) HEp0.out HLp0.out (by omega)).mono ?_
  rintro e v3 ⟨B0, m0, q0, rs0, rfl, he0, hl0, hF0, hb⟩
  have hz3 : v2.heap.size ≤ v3.heap.size := by have := hb.size; simpa using this
  replace ht := below_then ht hb ht.size
  replace hb0 := hb0.below hb
  replace hp0 := hp0.below hb
  have HER0 := Lib.hid he0
  have HLR0 := Lib.hid hl0
  have hnr0 : m0 ≤ 1048576 := by have h1 := hl0; have h2 := congrArg List.length he0; rw [rowNums_len] at h2; have h3 := hlen.1; omega
  clear he0 hl0
  replace hF0 := hF0.more (lo' := v2.heap.size) (hi' := v3.heap.size) (by simp) (Nat.le_refl _)
  clear hb
  clear hp0
  clear hb0_0 hb0_1 hb0_l
  obtain ⟨hb0_0, hb0_1⟩ := hb0.cells2
  have hb0_l := hb0.lt
  -- region 6
  go_wp2_with fail
  refine (toIntSS_any A0 n0 c0 x0 _ (by exact h0.below ht) HX0.out (by omega)).mono ?_
  rintro e v4 ⟨gx0, wsx0, rfl, hgx0, hwx0, hex0, hlx0, hb⟩
  have hz4 : v3.heap.size ≤ v4.heap.size := by have := hb.size; simpa using this
  replace ht := below_then ht hb ht.size
  replace hb0 := hb0.below hb
  replace hF0 := hF0.below hb
  have HEx0 := Lib.hid hex0
  have HLx0 := Lib.hid hlx0
  clear hex0 hlx0
  have hx0 := hwx0.free.more (lo' := v3.heap.size) (hi' := v4.heap.size) (by simpa using hgx0) (Nat.le_refl _)
  have hcapx0 : n0 ≤ 1048576 := by have := total_len x0; have := HX0.out; omega
  clear hgx0 hwx0
  clear hb
  clear hb0_0 hb0_1 hb0_l
  obtain ⟨hb0_0, hb0_1⟩ := hb0.cells2
  have hb0_l := hb0.lt
  -- region 7
  go_wp2_with fail
  refine (toCompany_any k0 k1 _).mono ?_
  rintro e v5 ⟨rfl, hb⟩
  have hz5 : v4.heap.size ≤ v5.heap.size := by have := hb.size; simpa using this
  replace ht := below_then ht hb ht.size
  replace hb0 := hb0.below hb
  replace hF0 := hF0.below hb
  replace hx0 := hx0.below hb
  clear hb
  clear hb0_0 hb0_1 hb0_l
  obtain ⟨hb0_0, hb0_1⟩ := hb0.cells2
  have hb0_l := hb0.lt
  go_wp2_with fail
  refine (implSwap_on k0 k1 k2 k3 _ n0 _ wsx0 (rowNums x0) _ (by exact hx0.grid) HEx0.out HLx0.out (by omega)).mono ?_
  rintro e v6 ⟨B1, m1, q1, rs1, rfl, he1, hl1, hF1, hb⟩
  have hz6 : v5.heap.size ≤ v6.heap.size := by have := hb.size; simpa using this
  replace ht := below_then ht hb ht.size
  replace hb0 := hb0.below hb
  replace hF0 := hF0.below hb
  replace hx0 := hx0.below hb
  have HER1 := Lib.hid he1
  have HLR1 := Lib.hid hl1
  have hnr1 : m1 ≤ 1048576 := by have h1 := hl1; have h2 := congrArg List.length he1; rw [rowNums_len] at h2; have h3 := hlen.1; omega
  clear he1 hl1
  replace hF1 := hF1.more (lo' := v5.heap.size) (hi' := v6.heap.size) (by simp) (Nat.le_refl _)
  clear hb
  clear hb0_0 hb0_1 hb0_l
  obtain ⟨hb0_0, hb0_1⟩ := hb0.cells2
  have hb0_l := hb0.lt
  -- region 8
  go_wp2_with fail
  refine (eqIntSS_yes B1 B0 m1 m0 q1 q0 rs1 rs0 _ (by exact hF1.grid) (by exact hF0.grid) (by rw [HER1.out, HER0.out]) HLR1.out HLR0.out (by omega)).mono ?_
  rintro e v7 ⟨rfl, hb⟩
  have hz7 : v6.heap.size ≤ v7.heap.size := by have := hb.size; simpa using this
  replace ht := below_then ht hb ht.size
  replace hb0 := hb0.below hb
  replace hF0 := hF0.below hb
  replace hx0 := hx0.below hb
  replace hF1 := hF1.below hb
  clear hb
  clear hb0_0 hb0_1 hb0_l
  obtain ⟨hb0_0, hb0_1⟩ := hb0.cells2
  have hb0_l := hb0.lt
  -- region 10
  go_wp2_with fail
  refine (toIntSS_any A0 n0 c0 x0 _ (by exact h0.below ht) HX0.out (by omega)).mono ?_
  rintro e v8 ⟨gy0, wsy0, rfl, hgy0, hwy0, hey0, hly0, hb⟩
  have hz8 : v7.heap.size ≤ v8.heap.size := by have := hb.size; simpa using this
  replace ht := below_then ht hb ht.size
  replace hb0 := hb0.below hb
  replace hF0 := hF0.below hb
  replace hx0 := hx0.below hb
  replace hF1 := hF1.below hb
  have HEy0 := Lib.hid hey0
  have HLy0 := Lib.hid hly0
  clear hey0 hly0
  have hy0 := hwy0.free.more (lo' := v7.heap.size) (hi' := v8.heap.size) (by simpa using hgy0) (Nat.le_refl _)
  have hcapy0 : n0 ≤ 1048576 := by have := total_len x0; have := HX0.out; omega
  clear hgy0 hwy0
  clear hb
  clear hb0_0 hb0_1 hb0_l
  obtain ⟨hb0_0, hb0_1⟩ := hb0.cells2
  have hb0_l := hb0.lt
  go_wp2_with fail
  refine (eqIntSS_yes _ _ n0 n0 _ _ wsx0 wsy0 _ (by exact hx0.grid) (by exact hy0.grid) (by rw [HEx0.out, HEy0.out]) HLx0.out HLy0.out (by omega)).mono ?_
  rintro e v9 ⟨rfl, hb⟩
  have hz9 : v8.heap.size ≤ v9.heap.size := by have := hb.size; simpa using this
  replace ht := below_then ht hb ht.size
  replace hb0 := hb0.below hb
  replace hF0 := hF0.below hb
  replace hx0 := hx0.below hb
  replace hF1 := hF1.below hb
  replace hy0 := hy0.below hb
  clear hb
  clear hy0
  clear hb0_0 hb0_1 hb0_l
  obtain ⟨hb0_0, hb0_1⟩ := hb0.cells2
  have hb0_l := hb0.lt
  -- region 13
  go_wp2_with fail
  have hsum0 : part wsx0 wsx0.length ≤ 1048576 := by rw [part_nums hx0.grid h0 HEx0.out]; have := part_total x0; omega
  refine (markIntSS_any (some ⟨gx0, 0, none⟩) n0 n0 _ _ wsx0 (1) _ hx0 HLx0.out (by omega) (by omega) (by omega) hsum0).mono ?_
  rintro e v10 ⟨rfl, hs, -⟩
  have hsz := ht.size
  replace ht := hs.below ht (by omega) hsz
  replace hb0 := hs.whole hb0 (by omega)
  replace hF0 := hs.freeGrid hF0 (by omega)
  replace hF1 := hs.freeGrid hF1 (by omega)
  clear hs hsz hx0
  have hk_1 : (0 : Int) ≤ 1 + ((part wsx0 wsx0.length : Nat) : Int) := by omega
  clear hb0_0 hb0_1 hb0_l
  obtain ⟨hb0_0, hb0_1⟩ := hb0.cells2
  have hb0_l := hb0.lt
  -- region 14
  go_wp2_with fail
  refine (eqIntSS_yes B1 B0 m1 m0 q1 q0 rs1 rs0 _ (by exact hF1.grid) (by exact hF0.grid) (by rw [HER1.out, HER0.out]) HLR1.out HLR0.out (by omega)).mono ?_
  rintro e v11 ⟨rfl, hb⟩
  have hz11 : v10.heap.size ≤ v11.heap.size := by have := hb.size; simpa using this
  replace ht := below_then ht hb ht.size
  replace hb0 := hb0.below hb
  replace hF0 := hF0.below hb
  replace hF1 := hF1.below hb
  clear hb
  clear hb0_0 hb0_1 hb0_l
  obtain ⟨hb0_0, hb0_1⟩ := hb0.cells2
  have hb0_l := hb0.lt
  -- region 17
  go_wp2_with fail
  have hprt : part rs1 rs1.length ≤ 1048576 := by have h1 := part_lens hF1.grid; have h2 := hlen.2; rw [HER1.out] at h1; omega
  refine (markIntSS_any B1 m1 q1 _ _ rs1 1 _ hF1 HLR1.out (by omega) (by omega) hnr1 hprt).mono ?_
  rintro e v12 ⟨rfl, hs, hM⟩
  have hsz := ht.size
  replace ht := hs.below ht (by omega) hsz
  replace hb0 := hs.whole hb0 (by omega)
  replace hF0 := hs.freeGrid hF0 (by omega)
  clear hs hF1 hsz
  clear hb0_0 hb0_1 hb0_l
  obtain ⟨hb0_0, hb0_1⟩ := hb0.cells2
  have hb0_l := hb0.lt
  -- region 19
  go_wp2_with fail
  refine (heldIntSS_any B1 m1 q1 rs1 1 _ (by exact hM.grid) HLR1.out (by omega) (by omega) hnr1 hprt).mono ?_
  rintro e v13 ⟨rfl, hb⟩
  have hz13 : v12.heap.size ≤ v13.heap.size := by have := hb.size; simpa using this
  replace ht := below_then ht hb ht.size
  replace hb0 := hb0.below hb
  replace hF0 := hF0.below hb
  replace hM := hM.below hb
  clear hb
  have hm0 : (0 : Int) ≤ 1 + ((part rs1 rs1.length : Nat) : Int) := by omega
  clear hb0_0 hb0_1 hb0_l
  obtain ⟨hb0_0, hb0_1⟩ := hb0.cells2
  have hb0_l := hb0.lt
  -- region 24
  go_wp2_with fail
  refine (toCompany_any k0 k1 _).mono ?_
  rintro e v14 ⟨rfl, hb⟩
  have hz14 : v13.heap.size ≤ v14.heap.size := by have := hb.size; simpa using this
  replace ht := below_then ht hb ht.size
  replace hb0 := hb0.below hb
  replace hF0 := hF0.below hb
  replace hM := hM.below hb
  clear hb
  clear hb0_0 hb0_1 hb0_l
  obtain ⟨hb0_0, hb0_1⟩ := hb0.cells2
  have hb0_l := hb0.lt
  go_wp2_with fail
  refine (toIntSS_any A0 n0 c0 x0 _ (by exact h0.below ht) HX0.out (by omega)).mono ?_
  rintro e v15 ⟨gr0, wsr0, rfl, hgr0, hwr0, her0, hlr0, hb⟩
  have hz15 : v14.heap.size ≤ v15.heap.size := by have := hb.size; simpa using this
  replace ht := below_then ht hb ht.size
  replace hb0 := hb0.below hb
  replace hF0 := hF0.below hb
  replace hM := hM.below hb
  have HEr0 := Lib.hid her0
  have HLr0 := Lib.hid hlr0
  clear her0 hlr0
  have hr0 := hwr0.free.more (lo' := v14.heap.size) (hi' := v15.heap.size) (by simpa using hgr0) (Nat.le_refl _)
  have hcapr0 : n0 ≤ 1048576 := by have := total_len x0; have := HX0.out; omega
  clear hgr0 hwr0
  clear hb
  clear hb0_0 hb0_1 hb0_l
  obtain ⟨hb0_0, hb0_1⟩ := hb0.cells2
  have hb0_l := hb0.lt
  go_wp2_with fail
  refine (implSwap_on k0 k1 k2 k3 _ n0 _ wsr0 (rowNums x0) _ (by exact hr0.grid) HEr0.out HLr0.out (by omega)).mono ?_
  rintro e v16 ⟨B2, m2, q2, rs2, rfl, he2, hl2, hF2, hb⟩
  have hz16 : v15.heap.size ≤ v16.heap.size := by have := hb.size; simpa using this
  replace ht := below_then ht hb ht.size
  replace hb0 := hb0.below hb
  replace hF0 := hF0.below hb
  replace hM := hM.below hb
  replace hr0 := hr0.below hb
  have HER2 := Lib.hid he2
  have HLR2 := Lib.hid hl2
  have hnr2 : m2 ≤ 1048576 := by have h1 := hl2; have h2 := congrArg List.length he2; rw [rowNums_len] at h2; have h3 := hlen.1; omega
  clear he2 hl2
  replace hF2 := hF2.more (lo' := v15.heap.size) (hi' := v16.heap.size) (by simp) (Nat.le_refl _)
  clear hb
  clear hr0
  clear hb0_0 hb0_1 hb0_l
  obtain ⟨hb0_0, hb0_1⟩ := hb0.cells2
  have hb0_l := hb0.lt
  -- region 25
  go_wp2_with fail
  refine (eqIntSS_yes B2 B0 m2 m0 q2 q0 rs2 rs0 _ (by exact hF2.grid) (by exact hF0.grid) (by rw [HER2.out, HER0.out]) HLR2.out HLR0.out (by omega)).mono ?_
  rintro e v17 ⟨rfl, hb⟩
  have hz17 : v16.heap.size ≤ v17.heap.size := by have := hb.size; simpa using this
  replace ht := below_then ht hb ht.size
  replace hb0 := hb0.below hb
  replace hF0 := hF0.below hb
  replace hM := hM.below hb
  replace hF2 := hF2.below hb
  clear hb
  clear hb0_0 hb0_1 hb0_l
  obtain ⟨hb0_0, hb0_1⟩ := hb0.cells2
  have hb0_l := hb0.lt
  -- region 28
  go_wp2_with fail
  refine (heldIntSS_any B1 m1 q1 rs1 1 _ (by exact hM.grid) HLR1.out (by omega) (by omega) hnr1 hprt).mono ?_
  rintro e v18 ⟨rfl, hb⟩
  have hz18 : v17.heap.size ≤ v18.heap.size := by have := hb.size; simpa using this
  replace ht := below_then ht hb ht.size
  replace hb0 := hb0.below hb
  replace hF0 := hF0.below hb
  replace hM := hM.below hb
  replace hF2 := hF2.below hb
  clear hb
  clear hb0_0 hb0_1 hb0_l
  obtain ⟨hb0_0, hb0_1⟩ := hb0.cells2
  have hb0_l := hb0.lt
  go_wp2
  go_ret
  exact ⟨rfl, ht⟩

theorem lawSwapCouples_all (k0 : Int) (k1 : Int) (A0 : Option Addr) (n0 c0 : Nat) (x0 : List RowV) (k2 : Int) (k3 : Int) (w : World) (h0 : Grid w A0 x0) (hx0 : x0.length = n0) (hn0 : n0 ≤ 9223372036854775807) (_hk2 : -9223372036854775808 ≤ k2 ∧ k2 ≤ 9223372036854775807) (_hk3 : -9223372036854775808 ≤ k3 ∧ k3 ≤ 9223372036854775807) :
    Calls Try.prog 5 #[.agg #[.int .i64 k0, .int .i64 k1], .slice A0 n0 c0, .int .i64 k2, .int .i64 k3] w fun e w' => e = .returned (.bool true) ∧ Below w.heap.size w w' := by
  rcases (inferInstance : Decidable (0 ≤ 1048576 - (total x0 : Int))) with g0 | g0
  · exact lawSwapCouples_big0 k0 k1 A0 n0 c0 x0 k2 k3 w h0 hx0 hn0  (by omega)
  exact lawSwapCouples_small k0 k1 A0 n0 c0 x0 k2 k3 w h0 hx0 hn0 g0
end Go.Proofs.Ytkdjdnknhbmliaa
